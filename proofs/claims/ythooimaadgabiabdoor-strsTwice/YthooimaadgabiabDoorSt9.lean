/-
  strs' placed and openEnded, and the closures that ask at each place.
-/
import Derived.Test.YthooimaadgabiabDoorSt1
import Derived.Test.YthooimaadgabiabDoorStM
import Derived.LoopTactic
namespace Go.Proofs.YthooimaadgabiabDoor
open Go.RowKit
set_option linter.unusedSimpArgs false
set_option linter.unusedVariables false

theorem up9 {a b c : World} (h : Below a.heap.size a b) (k : Below b.heap.size b c) : Below a.heap.size a c := h.trans (k.mono h.size)
set_option maxRecDepth 100000 in
set_option maxHeartbeats 4000000 in
theorem placed_any (s : By) (from_ : Int) (f : Nat) (caps : Array Value) (g : By → Bool) (w : World) (hs : s.length ≤ 255) (hf : from_ ≤ 9223372036854775807)
    (r1 : ∀ (xs : Array Value) (W : World), Sem.run Tryd.prog (callFunc f xs) W = .ok (.enter f xs) W)
    (hg : ∀ (W : World) (r : By), Below w.heap.size w W → r.length ≤ 255 → Calls Tryd.prog f (#[.string ⟨r.toArray⟩] ++ caps) W fun e w' => e = .returned (.bool (g r)) ∧ Below W.heap.size W w') :
    Calls Tryd.prog 34 #[.string ⟨s.toArray⟩, .int .i64 from_, .func (.func f) #[] caps] w fun e w' => e = endI (plS g s from_) ∧ Below w.heap.size w w' := by
  have sz := mk_size s
  have HG := hide hg
  clear hg
  by_cases h1 : from_ < 1
  · have HC := hide (ahead_no from_ w h1)
    rw [show plS g s from_ = none from if_pos (.inr h1)]
    generalize (⟨s.toArray⟩ : ByteArray) = S at *
    go_enter Tryd.func34, Tryd.ntmps34
    go_wp2_with (go_at_call 21; refine HC.out.mono ?_; rintro e w1 ⟨rfl, rfl⟩)
    exact ⟨rfl, rfl, Below.refl _ _⟩
  · have HC := hide (ahead_ok from_ w (by omega) hf)
    obtain ⟨k0, hk0⟩ : ∃ k : Nat, from_ - 1 = k := ⟨(from_ - 1).toNat, by omega⟩
    rw [show plS g s from_ = upS (seekL g s (from_ - 1).toNat) from if_neg (by omega), hk0, Int.toNat_natCast]
    rw [hk0] at HC
    have hk1 : (k0 : Int) < 9223372036854775807 := by omega
    obtain ⟨Z, hZ⟩ : ∃ Z, seekL g s k0 = Z := ⟨_, rfl⟩
    rw [hZ]
    have HZ := hide hZ
    clear hZ h1 hk0
    go_enter Tryd.func34, Tryd.ntmps34
    go_wp2_with (go_at_call 21; refine HC.out.mono ?_; rintro e w1 ⟨rfl, rfl⟩)
    go_loopw [7] (fun iv wr => ∃ k : Nat, (k : Int) < 9223372036854775807 ∧ iv = .int .i64 k ∧ Hid (seekL g s k = Z) ∧ Below w1.heap.size w1 wr) (fun iv _ => s.length + 1 - (intOf iv).toNat)
    case atStart => exact ⟨k0, hk1, rfl, HZ, Below.refl _ _⟩
    case round =>
      obtain ⟨k, hk, rfl, HQ, hB⟩ := hrel
      have HB := hide hB
      clear hB
      by_cases hlt : k ≤ s.length
      · have g1 : (k : Int) ≤ (s.length : Int) := by omega
        have x1 : (⟨s.toArray⟩ : ByteArray).extract k s.length = ⟨(s.drop k).toArray⟩ := mk_drop s k
        have HP := hide (fun W hW => HG.out W (s.drop k) hW (by rw [List.length_drop]; omega))
        cases hb : g (s.drop k) with
        | true =>
          rw [hb] at HP
          have HF : Hid (Z = some k) := HQ.out.symm.trans (seek_yes hlt hb)
          clear hb HQ
          generalize (⟨(s.drop k).toArray⟩ : ByteArray) = D at *
          generalize (⟨s.toArray⟩ : ByteArray) = S at *
          have hw : IntKind.i64.wrap ((k : Int) + 1) = (k : Int) + 1 := by rw [IntKind.wrap_i64]; omega
          go_wp2_with (refine (HP.out _ HB.out).mono ?_; rintro e w2 ⟨rfl, hb2⟩)
          go_ret
          rw [HF.out]
          exact ⟨rfl, up9 HB.out hb2⟩
        | false =>
          rw [hb] at HP
          have HF : Hid (seekL g s (k + 1) = Z) := (seek_no hlt hb).symm.trans HQ.out
          clear hb HQ
          generalize (⟨(s.drop k).toArray⟩ : ByteArray) = D at *
          generalize (⟨s.toArray⟩ : ByteArray) = S at *
          have hw : IntKind.i64.wrap ((k : Int) + 1) = (k : Int) + 1 := by rw [IntKind.wrap_i64]; omega
          go_wp2_with (refine (HP.out _ HB.out).mono ?_; rintro e w2 ⟨rfl, hb2⟩)
          go_roundw
          case rel => exact ⟨k + 1, by omega, by go_num, HF, up9 HB.out hb2⟩
          case measure => simp [intOf]; omega
      · have HF : Hid (Z = none) := HQ.out.symm.trans (seek_end (by omega))
        have g1 : ¬ (k : Int) ≤ (s.length : Int) := by omega
        clear HQ
        generalize (⟨s.toArray⟩ : ByteArray) = S at *
        go_wp2
        rw [HF.out]
        exact ⟨rfl, rfl, HB.out⟩
theorem mk_app (a b : By) : (⟨a.toArray⟩ : ByteArray) ++ ⟨b.toArray⟩ = ⟨(a ++ b).toArray⟩ := by
  apply ByteArray.ext
  simp [ByteArray.data_append]
set_option maxRecDepth 100000 in
set_option maxHeartbeats 2000000 in
theorem openEnded_any (p : By) (w : World) (hp : p.length ≤ 255) :
    Calls Tryd.prog 38 #[.string ⟨p.toArray⟩] w fun e w' => e = .returned (.string ⟨(openR p).toArray⟩) ∧ Below w.heap.size w w' := by
  have sz := mk_size p
  have HT := hide (Tryd.strings_TrimRight_one ⟨p.toArray⟩ 126 (by decide) w (by rw [sz]; omega))
  obtain ⟨m, h1, h2, _⟩ := trim_parts p
  have hl : (Lib.trimRightB p 126).length ≤ p.length := by
    have := congrArg List.length h1
    rw [List.length_append] at this
    omega
  obtain ⟨t, ht⟩ : ∃ t, Lib.trimRightB p 126 = t := ⟨_, rfl⟩
  rw [mk_list, ht] at HT
  have HO : Hid (openR p = (if (p.length - t.length) % 2 = 1 then p ++ [126] else p) ++ [42]) := by rw [← ht]; exact hide rfl
  rw [ht] at hl
  have szt := mk_size t
  have hw : IntKind.i64.wrap ((p.length : Int) - (t.length : Int)) = (p.length : Int) - (t.length : Int) := by rw [IntKind.wrap_i64]; omega
  have hw2 : IntKind.i64.wrap (((p.length : Int) - (t.length : Int)).tmod 2) = ((p.length : Int) - (t.length : Int)).tmod 2 := by
    rw [Int.tmod_eq_emod_of_nonneg (by omega), IntKind.wrap_i64]; omega
  have x1 := mk_app p [126]
  have x2 := mk_app p [42]
  have x3 := mk_app (p ++ [126]) [42]
  have s1 := mk_size (p ++ [126])
  have l1 : (p ++ [126]).length ≤ 256 := by rw [List.length_append]; simp; omega
  rw [show (⟨([126] : By).toArray⟩ : ByteArray) = ⟨#[126]⟩ from rfl] at x1
  rw [show (⟨([42] : By).toArray⟩ : ByteArray) = ⟨#[42]⟩ from rfl] at x2 x3
  have hp2 : (9223372036854775807 < (p.length : Int) + 1) = False := eq_false (by omega)
  by_cases h : (p.length - t.length) % 2 = 1
  · rw [HO.out, if_pos h]
    have hb : (((p.length : Int) - (t.length : Int)) % 2 == 1) = true := by
      rw [beq_iff_eq]; omega
    clear h1 h2 ht h
    go_enter Tryd.func38, Tryd.ntmps38
    go_wp2_with (go_at_call 49; refine HT.out.mono ?_; rintro e w1 ⟨rfl, rfl⟩)
    go_ret
    exact ⟨by simp, Below.refl _ _⟩
  · rw [HO.out, if_neg h]
    have hb : (((p.length : Int) - (t.length : Int)) % 2 == 1) = false := by
      rw [beq_eq_false_iff_ne]; omega
    clear h1 h2 ht h
    go_enter Tryd.func38, Tryd.ntmps38
    go_wp2_with (go_at_call 49; refine HT.out.mono ?_; rintro e w1 ⟨rfl, rfl⟩)
    go_ret
    exact ⟨by simp, Below.refl _ _⟩
theorem cFind1 (b : Nat) (p r : By) (w : World) (h : w.cell? ⟨b, 0, none⟩ = some (.string ⟨p.toArray⟩)) :
    Calls Tryd.prog 35 #[.string ⟨r.toArray⟩, .pointer (some ⟨b, 0, none⟩)] w fun e w' => e = .returned (.bool (prefixB p r)) ∧ Below w.heap.size w w' := by
  have HP := hide (Tryd.strings_HasPrefix ⟨r.toArray⟩ ⟨p.toArray⟩ w)
  rw [mk_list, mk_list, show Lib.hasPrefix r p = prefixB p r from rfl] at HP
  generalize prefixB p r = b at *
  generalize (⟨r.toArray⟩ : ByteArray) = R at *
  generalize (⟨p.toArray⟩ : ByteArray) = P at *
  go_enter Tryd.func35, Tryd.ntmps35
  go_wp2_with (go_at_call 36; refine HP.out.mono ?_; rintro e w1 ⟨rfl, rfl⟩)
  go_ret
  exact ⟨rfl, Below.refl _ _⟩
theorem cSearch1 (b : Nat) (p r : By) (w : World) (h : w.cell? ⟨b, 0, none⟩ = some (.string ⟨(openR p).toArray⟩)) (hp : (openR p).length ≤ 1000) (hr : r.length ≤ 1000) :
    Calls Tryd.prog 39 #[.string ⟨r.toArray⟩, .pointer (some ⟨b, 0, none⟩)] w fun e w' => e = .returned (.bool (anyL p r)) ∧ Below w.heap.size w w' := by
  have HP := hide (Like_any ⟨(openR p).toArray⟩ ⟨r.toArray⟩ w (by rw [mk_size]; omega) (by rw [mk_size]; unfold maxLen; omega))
  rw [mk_list, mk_list, like_open] at HP
  generalize anyL p r = b at *
  generalize (⟨r.toArray⟩ : ByteArray) = R at *
  generalize (⟨(openR p).toArray⟩ : ByteArray) = P at *
  go_enter Tryd.func39, Tryd.ntmps39
  go_wp2_with (go_at_call 40; refine HP.out.mono ?_; rintro e w1 ⟨rfl, hb1⟩)
  go_ret
  exact ⟨rfl, hb1⟩
end Go.Proofs.YthooimaadgabiabDoor
