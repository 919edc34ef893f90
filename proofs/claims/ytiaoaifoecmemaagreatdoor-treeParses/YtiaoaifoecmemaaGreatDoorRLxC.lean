/-
  The contract of lex's text: its closure, row at it, the whole.
-/
import Derived.Test.YtiaoaifoecmemaaGreatDoorRLxB
import Derived.Test.YtiaoaifoecmemaaGreatDoorRLxM1
import Derived.Lib.ReplaceLaws
set_option maxRecDepth 100000
set_option maxHeartbeats 4000000
namespace Go.Proofs.YtiaoaifoecmemaaGreatDoor
open Go.RowKit
def OneB (w : World) (b : Nat) (v : Bool) : Prop := b < w.heap.size ∧ w.cell? ⟨b, 0, none⟩ = some (.bool v) ∧ w.frozen? ⟨b, 0, none⟩ = false
theorem OneB.set {w : World} {b : Nat} {v : Bool} (h : OneB w b v) (u : Bool) : OneB (w.setCell ⟨b, 0, none⟩ (.bool u)) b u :=
 ⟨by simpa using h.1, World.cell?_setCell_same _ _ _ h.2.1, by rw [World.frozen?_setCell]; exact h.2.2⟩
theorem text1_any (c : UInt8) (b : Nat) (op : Bool) (w : World) (h : OneB w b op) :
    Calls Tryz.prog 159 #[.int .u8 (c.toNat : Int), .pointer (some ⟨b, 0, none⟩)] w fun e w' => e = .returned (.bool (decide (c.toNat = 34) || op)) ∧ w' = if c.toNat = 34 then w.setCell ⟨b, 0, none⟩ (.bool (!op)) else w := by
  obtain ⟨h1, h2, h3⟩ := h
  have i34 : (⟨#[34]⟩ : ByteArray)[0] = 34 := rfl
  by_cases hc : c.toNat = 34
  · have e1 : ((c.toNat : Int) == 34) = true := by rw [beq_iff_eq]; omega
    rw [if_pos hc, show decide (c.toNat = 34) = true by simp [hc]]
    clear hc
    go_enter Tryz.func159, Tryz.ntmps159
    go_wp2
    go_ret
    exact ⟨rfl, rfl⟩
  · have e1 : ((c.toNat : Int) == 34) = false := by rw [beq_eq_false_iff_ne]; omega
    rw [if_neg hc, show decide (c.toNat = 34) = false by simp [hc]]
    clear hc
    go_enter Tryz.func159, Tryz.ntmps159
    go_wp2
    go_ret
    exact ⟨rfl, rfl⟩
theorem quo_step {l : List UInt8} {k : Nat} {op0 op : Bool} (hk : k < l.length) (hq : quoN l op0 = (k + (quoN (l.drop k) op).1, (quoN (l.drop k) op).2)) (hgo : l[k].toNat = 34 ∨ op = true) :
    quoN l op0 = (k + 1 + (quoN (l.drop (k + 1)) (if l[k].toNat = 34 then !op else op)).1, (quoN (l.drop (k + 1)) (if l[k].toNat = 34 then !op else op)).2) := by
  rw [hq, List.drop_eq_getElem_cons hk]
  by_cases h : l[k].toNat = 34
  · rw [quo_quote h, if_pos h]
    simp only [Prod.mk.injEq, and_true]
    omega
  · rcases hgo with hgo | hgo
    · exact absurd hgo h
    · subst hgo
      rw [quo_in h, if_neg h]
      simp only [Prod.mk.injEq, and_true]
      omega
theorem quo_stop {l : List UInt8} {k : Nat} {op0 op : Bool} (hq : quoN l op0 = (k + (quoN (l.drop k) op).1, (quoN (l.drop k) op).2)) (h : l.length ≤ k ∨ ∃ hk : k < l.length, l[k].toNat ≠ 34 ∧ op = false) : quoN l op0 = (k, op) := by
  rw [hq]
  rcases h with h | ⟨hk, h, rfl⟩
  · rw [List.drop_of_length_le h]; simp [quoN]
  · rw [List.drop_eq_getElem_cons hk, quo_out h]; simp
theorem row_quo (s : ByteArray) (b : Nat) (op : Bool) (w : World) (hs : s.size ≤ maxLen) (h : OneB w b op) :
    Calls Tryz.prog 97 #[.string s, .func (.func 159) #[] #[.pointer (some ⟨b, 0, none⟩)]] w fun e w' => e = .returned (.int .i64 ((quoN s.data.toList op).1 : Int)) ∧ OneB w' b (quoN s.data.toList op).2 ∧ Below b w w' := by
  unfold maxLen at hs
  have HL : Hid (s.data.toList.length = s.size) := by show _ = _; simp
  have HT : Hid (∀ (c : UInt8) (o : Bool) (W : World), OneB W b o → Calls Tryz.prog 159 #[.int .u8 (c.toNat : Int), .pointer (some ⟨b, 0, none⟩)] W fun e w' => e = .returned (.bool (decide (c.toNat = 34) || o)) ∧ w' = if c.toNat = 34 then W.setCell ⟨b, 0, none⟩ (.bool (!o)) else W) := fun c o W hW => text1_any c b o W hW
  have H0 := hide h
  clear h
  go_enter Tryz.func97, Tryz.ntmps97
  go_wp2
  go_loopw [5] (fun nv wr => ∃ (k : Nat) (o : Bool), k ≤ s.size ∧ nv = .int .i64 k ∧ OneB wr b o ∧ Below b w wr ∧ quoN s.data.toList op = (k + (quoN (s.data.toList.drop k) o).1, (quoN (s.data.toList.drop k) o).2)) (fun nv _ => s.size - (intOf nv).toNat)
  case atStart => exact ⟨0, op, Nat.zero_le _, rfl, H0.out, Below.refl _ _, by simp⟩
  case round =>
    obtain ⟨k, o, hk, rfl, ho, hB, hq⟩ := hrel
    have HQ := hide hq
    have HO := hide ho
    clear hq ho H0
    by_cases hlt : k < s.size
    · have e0 : s[k] = s.data.toList[k]'(by have := HL.out; omega) := by rw [ByteArray.getElem_eq_getElem_data, Array.getElem_toList]
      have HT' := hide (HT.out s[k] o wr HO.out)
      by_cases hg : s[k].toNat = 34 ∨ o = true
      · have ht : (decide (s[k].toNat = 34) || o) = true := by rcases hg with h | h <;> simp [h]
        rw [ht] at HT'
        have HS := hide (quo_step (by have := HL.out; omega) HQ.out (by rw [← e0]; exact hg))
        rw [← e0] at HS
        clear e0 HT ht
        go_wp2_with (go_at_call 159; refine (HT'.out).mono ?_; rintro e w1 ⟨rfl, hw1⟩; have HW1 := hide hw1; clear hw1)
        go_roundw
        case rel =>
          have hw1 := HW1.out
          by_cases h34 : s[k].toNat = 34
          · rw [if_pos h34] at hw1
            have := HS.out
            rw [if_pos h34] at this
            subst hw1
            exact ⟨k + 1, !o, by omega, by go_num, HO.out.set _, hB.setCell (Nat.le_refl _) _, this⟩
          · rw [if_neg h34] at hw1
            have := HS.out
            rw [if_neg h34] at this
            subst hw1
            exact ⟨k + 1, o, by omega, by go_num, HO.out, hB, this⟩
        case measure => simp [intOf]; omega
      · have h1 : s[k].toNat ≠ 34 := fun h => hg (Or.inl h)
        have h2 : o = false := by cases o; rfl; exact absurd (Or.inr rfl) hg
        subst h2
        rw [if_neg h1, show (decide (s[k].toNat = 34) || false) = false by simp [h1]] at HT'
        have HS := hide (quo_stop HQ.out (Or.inr ⟨by have := HL.out; omega, by rw [← e0]; exact h1, rfl⟩))
        clear e0 HT hg h1
        go_wp2_with (go_at_call 159; refine (HT'.out).mono ?_; rintro e w1 ⟨rfl, hw1⟩; subst w1)
        go_ret
        rw [HS.out]
        exact ⟨rfl, HO.out, hB⟩
    · have HS := hide (quo_stop HQ.out (Or.inl (by have := HL.out; omega)))
      go_wp2
      go_ret
      rw [HS.out]
      exact ⟨rfl, HO.out, hB⟩
theorem lxtext_any (s : ByteArray) (w : World) (r : List UInt8) (hr : s.data.toList = 34 :: r) (hc : CellOk w) (hs : s.size ≤ 1024) :
    Calls Tryz.prog 127 #[.string s] w fun e w' => e = .returned (.tuple #[tokV (textT s.data.toList).1, .int .i64 ((textT s.data.toList).2.1 : Int), .int .i64 (textT s.data.toList).2.2]) ∧ Below w.heap.size w w' := by
  have hl' : s.data.toList.length = s.size := by simp
  have hlr : r.length + 1 = s.size := by rw [← hl', hr]; simp
  have HQ : Hid (∀ (W : World) (b : Nat), OneB W b false → Calls Tryz.prog 97 #[.string s, .func (.func 159) #[] #[.pointer (some ⟨b, 0, none⟩)]] W fun e w' => e = .returned (.int .i64 ((quoN s.data.toList false).1 : Int)) ∧ OneB w' b (quoN s.data.toList false).2 ∧ Below b W w') := fun W b hb => row_quo s b false W (by unfold maxLen; omega) hb
  have HO : Hid (∀ (W : World) (o : Obj), OneB ((W.alloc o).alloc (.cells #[.bool false] 4)) (W.heap.size + 1) false) := fun W o => ⟨by simp, by simp [go_sem], by simp⟩
  have hq : quoN s.data.toList false = ((quoN r true).1 + 1, (quoN r true).2) := by rw [hr, quo_quote rfl]; rfl
  rw [hq] at HQ
  have HC := hide hc
  have hquo := quo_txt r.length r (Nat.le_refl _)
  have ht : textT s.data.toList = textOfT (txt r) := by rw [hr]; rfl
  rw [ht]
  clear ht hq hc
  cases e : txt r with
  | none =>
    have h2 := hquo.1 e
    rw [h2] at HQ
    generalize (quoN r true).1 = m at *
    have HW : Hid (∀ W : World, Calls Tryz.prog 157 #[.int .i64 5] W fun r w' => r = .returned (.tuple #[.agg #[.int .i64 0, .int .i64 0, .int .i64 0, .string ⟨#[]⟩, .bool false, .int .i64 0, .int .i64 0, .int .i64 0, .bool false, .bool false, .string ⟨#[]⟩, .int .i64 0], .int .i64 0, .int .i64 5]) ∧ Below W.heap.size W w') := fun W => wrong_any 5 W
    clear h2 hquo hr hl' hlr
    go_enter Tryz.func127, Tryz.ntmps127
    go_wp2_with (first | (go_at_call 97; refine (HQ.out _ _ (HO.out _ _)).mono ?_; rintro e w1 ⟨rfl, ⟨z1, k1, g1⟩, hb_w1⟩; obtain ⟨c_w1, f_w1⟩ := bcelln hb_w1; have z_w1 : w.heap.size < w1.heap.size := by omega) | (go_at_call 157; refine (HW.out _).mono ?_; rintro e w2 ⟨rfl, hb_w2⟩; obtain ⟨c_w2, f_w2⟩ := bcell hb_w2))
    refine bodyPost_ret (v := .tuple #[.agg #[.int .i64 0, .int .i64 0, .int .i64 0, .string ⟨#[]⟩, .bool false, .int .i64 0, .int .i64 0, .int .i64 0, .bool false, .bool false, .string ⟨#[]⟩, .int .i64 0], .int .i64 0, .int .i64 5]) (by simp [results, Tryz.results127, go_sem, *]) rfl ⟨rfl, ?_⟩
    repeat' (first | with_reducible (first | exact Below.refl _ _ | refine Below.setCell ?_ ?_ _ | refine Below.alloc ?_ ?_ _ | refine below_drewN ?_ _ | refine Below.drew ?_ | refine Below.trans ?_ (Below.mono (by assumption) ?_) | exact Nat.le_refl _ | refine Nat.le_trans ?_ (Below.size (by assumption)) | refine zzA ?_ | refine zzB ?_ | refine zzC ?_ | refine zzD ?_) | (simp; done) | (simp; omega) | omega)
  | some x =>
    obtain ⟨t, m⟩ := x
    obtain ⟨h1, h2, h3, h4⟩ := hquo.2 t m e
    rw [h1] at HQ
    have hx : (s.extract 1 m).data.toList = r.take (m - 1) := by
      simp [hr]
    have HX : Hid (∀ W : World, CellOk W → Calls Tryz.prog 85 #[.string (s.extract 1 m), .string ⟨#[34, 34]⟩, .string ⟨#[34]⟩] W fun e w' => e = .returned (.string ⟨t.toArray⟩) ∧ Below W.heap.size W w') := fun W ⟨q, hW⟩ => by
      have hz := ext_size s 1 m
      have := Tryz.strings_ReplaceAll (s.extract 1 m) ⟨#[34, 34]⟩ ⟨#[34]⟩ q W (by omega) hW (by decide) (by
        have := Lib.countB_mul_le (⟨#[34, 34]⟩ : ByteArray) (by decide) _ (s.extract 1 m) (Nat.le_refl _)
        have e2 : (⟨#[34, 34]⟩ : ByteArray).size = 2 := rfl
        have e1 : (⟨#[34]⟩ : ByteArray).size = 1 := rfl
        rw [e2] at this
        rw [e1]
        omega)
      rw [hx, show (⟨#[34, 34]⟩ : ByteArray).data.toList = [34, 34] from rfl, show (⟨#[34]⟩ : ByteArray).data.toList = [34] from rfl, rep_all, h2] at this
      exact this
    have hm : m < s.size := by omega
    clear hx h1 h2 hquo hr hl' e
    have HT : Hid (textOfT (some (t, m)) = if 255 < t.length then (zt, 0, 7) else (valTok 2 0 t false 0, m + 1, 0)) := rfl
    rw [HT.out]
    clear HT
    have ht : (⟨t.toArray⟩ : ByteArray).size = t.length := by show t.toArray.size = _; simp
    generalize hT : (⟨t.toArray⟩ : ByteArray) = T at *
    by_cases h255 : 255 < t.length
    · rw [if_pos h255]
      have g255 : (255 : Int) < T.size := by omega
      have HW : Hid (∀ W : World, Calls Tryz.prog 157 #[.int .i64 7] W fun r w' => r = .returned (.tuple #[.agg #[.int .i64 0, .int .i64 0, .int .i64 0, .string ⟨#[]⟩, .bool false, .int .i64 0, .int .i64 0, .int .i64 0, .bool false, .bool false, .string ⟨#[]⟩, .int .i64 0], .int .i64 0, .int .i64 7]) ∧ Below W.heap.size W w') := fun W => wrong_any 7 W
      clear hT ht h255
      go_enter Tryz.func127, Tryz.ntmps127
      go_wp2_with (first | (go_at_call 97; refine (HQ.out _ _ (HO.out _ _)).mono ?_; rintro e w1 ⟨rfl, ⟨z1, k1, g1⟩, hb_w1⟩; obtain ⟨c_w1, f_w1⟩ := bcelln hb_w1; have z_w1 : w.heap.size < w1.heap.size := by omega) | (go_at_call 85; refine (HX.out _ (cellOk_below HC.out (((Below.refl _ _).alloc (Nat.le_refl _) _).alloc (by simp) _ |>.trans (hb_w1.mono (by omega))))).mono ?_; rintro e w2 ⟨rfl, hb_w2⟩; obtain ⟨c_w2, f_w2⟩ := bcell hb_w2; have z_w2 : w.heap.size < w2.heap.size := by have := hb_w2.size; omega) | (go_at_call 157; refine (HW.out _).mono ?_; rintro e w3 ⟨rfl, hb_w3⟩; obtain ⟨c_w3, f_w3⟩ := bcell hb_w3))
      refine bodyPost_ret (v := .tuple #[.agg #[.int .i64 0, .int .i64 0, .int .i64 0, .string ⟨#[]⟩, .bool false, .int .i64 0, .int .i64 0, .int .i64 0, .bool false, .bool false, .string ⟨#[]⟩, .int .i64 0], .int .i64 0, .int .i64 7]) (by simp [results, Tryz.results127, go_sem, *]) rfl ⟨rfl, ?_⟩
      repeat' (first | with_reducible (first | exact Below.refl _ _ | refine Below.setCell ?_ ?_ _ | refine Below.alloc ?_ ?_ _ | refine below_drewN ?_ _ | refine Below.drew ?_ | refine Below.trans ?_ (Below.mono (by assumption) ?_) | exact Nat.le_refl _ | refine Nat.le_trans ?_ (Below.size (by assumption)) | refine zzA ?_ | refine zzB ?_ | refine zzC ?_ | refine zzD ?_) | (simp; done) | (simp; omega) | omega)
    · rw [if_neg h255]
      have g255 : ¬ (255 : Int) < T.size := by omega
      have HV : Hid (∀ W : World, Calls Tryz.prog 158 #[.agg #[.int .i64 2, .int .i64 0, .string T, .bool false, .int .i64 0], .int .i64 ((m : Int) + 1)] W fun r w' => r = .returned (.tuple #[.agg #[.int .i64 1, .int .i64 2, .int .i64 0, .string T, .bool false, .int .i64 0, .int .i64 0, .int .i64 0, .bool false, .bool false, .string ⟨#[]⟩, .int .i64 0], .int .i64 ((m : Int) + 1), .int .i64 0]) ∧ Below W.heap.size W w') := fun W => valued_any 2 0 T false 0 (m + 1) W
      have HTT := hide hT
      clear hT ht h255
      go_enter Tryz.func127, Tryz.ntmps127
      go_wp2_with (first | (go_at_call 97; refine (HQ.out _ _ (HO.out _ _)).mono ?_; rintro e w1 ⟨rfl, ⟨z1, k1, g1⟩, hb_w1⟩; obtain ⟨c_w1, f_w1⟩ := bcelln hb_w1; have z_w1 : w.heap.size < w1.heap.size := by omega) | (go_at_call 85; refine (HX.out _ (cellOk_below HC.out (((Below.refl _ _).alloc (Nat.le_refl _) _).alloc (by simp) _ |>.trans (hb_w1.mono (by omega))))).mono ?_; rintro e w2 ⟨rfl, hb_w2⟩; obtain ⟨c_w2, f_w2⟩ := bcell hb_w2; have z_w2 : w.heap.size < w2.heap.size := by have := hb_w2.size; omega) | (go_at_call 158; refine (HV.out _).mono ?_; rintro e w3 ⟨rfl, hb_w3⟩; obtain ⟨c_w3, f_w3⟩ := bcell hb_w3))
      refine bodyPost_ret (v := .tuple #[.agg #[.int .i64 1, .int .i64 2, .int .i64 0, .string T, .bool false, .int .i64 0, .int .i64 0, .int .i64 0, .bool false, .bool false, .string ⟨#[]⟩, .int .i64 0], .int .i64 ((m : Int) + 1), .int .i64 0]) (by simp [results, Tryz.results127, go_sem, *]) rfl ⟨by rw [← HTT.out]; rfl, ?_⟩
      repeat' (first | with_reducible (first | exact Below.refl _ _ | refine Below.setCell ?_ ?_ _ | refine Below.alloc ?_ ?_ _ | refine below_drewN ?_ _ | refine Below.drew ?_ | refine Below.trans ?_ (Below.mono (by assumption) ?_) | exact Nat.le_refl _ | refine Nat.le_trans ?_ (Below.size (by assumption)) | refine zzA ?_ | refine zzB ?_ | refine zzC ?_ | refine zzD ?_) | (simp; done) | (simp; omega) | omega)
end Go.Proofs.YtiaoaifoecmemaaGreatDoor
