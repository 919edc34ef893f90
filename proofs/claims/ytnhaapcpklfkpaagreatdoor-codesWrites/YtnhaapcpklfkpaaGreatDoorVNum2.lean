/-
  Out of RefPrint2, NumBackWalk, what is asked for (laid by pack9.py).
-/
import Derived.Test.YtnhaapcpklfkpaaGreatDoorVNum
import Derived.BigCall
import Derived.BigGuard
import Derived.BigQuiet
import Derived.Deep.QuietTactic
import Derived.Deep.RegionWith
import Derived.Laws.EntriesVeiled
import Derived.Lib.AppendIntMem
import Derived.Lib.IndexMore
import Derived.Lib.ItoaMem
import Derived.Lib.SmallJoins
import Derived.Lib.Walk
import Derived.WalkKit
import Derived.WalkLawsBesides
import Derived.WalkSpells
import Derived.WideShapes
namespace Go.Proofs.YtnhaapcpklfkpaaGreatDoor
section
open Go.RowKit
theorem ba_tail (B : List UInt8) : (⟨B.toArray⟩ : ByteArray).extract 1 B.length = ⟨B.tail.toArray⟩ := Go.WideShapes.bytes_inj (by rw [extract_tail])
/-- The length of a text in a slot. -/
def strLen : Value → Nat
  | .string s => s.size
  | _ => 0
theorem trim_snoc (h : List UInt8) (c : UInt8) : Lib.trimRightB (h ++ [c]) c = Lib.trimRightB h c := by
  unfold Lib.trimRightB; simp
theorem trim_stop (h : List UInt8) {c d : UInt8} (hne : d ≠ c) : Lib.trimRightB (h ++ [d]) c = h ++ [d] := by
  unfold Lib.trimRightB; simp [hne]
theorem text_dot2 (S A F : List UInt8) : (⟨(S ++ A ++ 46 :: F).toArray⟩ : ByteArray) = ((⟨S.toArray⟩ ++ ⟨A.toArray⟩) ++ ⟨#[46]⟩) ++ ⟨F.toArray⟩ := by
  have h : (⟨#[46]⟩ : ByteArray) = ⟨([46] : List UInt8).toArray⟩ := rfl
  rw [h, ba_app, ba_app, ba_app, List.append_assoc (S ++ A)]; rfl
theorem ba_last (g : List UInt8) (c : UInt8) : ∀ (hh : g.length < (⟨(g ++ [c]).toArray⟩ : ByteArray).size), (⟨(g ++ [c]).toArray⟩ : ByteArray)[g.length]'hh = c := by
  intro hh
  rw [ByteArray.getElem_eq_getElem_data]
  simp
theorem ba_drop (g : List UInt8) (c : UInt8) : (⟨(g ++ [c]).toArray⟩ : ByteArray).extract 0 g.length = ⟨g.toArray⟩ := Go.WideShapes.bytes_inj (by simp [ByteArray.extract, ByteArray.copySlice])
set_option maxHeartbeats 2000000 in
theorem rprint_good (n : Int) (w : World) (h : fitsB n = true) :
    Calls Tryz.prog 39 #[.int .i64 n] w fun e w' => e = .returned (.tuple #[.string ⟨(textOf n).toArray⟩, .int .i64 0]) ∧ Below w.heap.size w w' := by
  obtain ⟨n1, n2⟩ := fitsB_true h
  have x0 := absI_nn n
  have x1 := absI_le n1 n2
  have HF1 : Hid (∀ W : World, Calls Tryz.prog 67 #[.int .i64 (absI n / 1000000)] W fun e w' => e = .returned (.string ⟨(Lib.decDigits (absI n / 1000000).toNat).toArray⟩) ∧ Below W.heap.size W w') := fun W => rdigits_any _ W (by omega) (by omega)
  have HF2 : Hid (∀ W : World, Calls Tryz.prog 67 #[.int .i64 (1000000 + absI n % 1000000)] W fun e w' => e = .returned (.string ⟨(Lib.decDigits (absI n % 1000000 + 1000000).toNat).toArray⟩) ∧ Below W.heap.size W w') := fun W => by
    have := rdigits_any (1000000 + absI n % 1000000) W (by omega) (by omega)
    rw [show (1000000 + absI n % 1000000).toNat = (absI n % 1000000 + 1000000).toNat from by omega] at this
    exact this
  have HX : Hid (textOf n = (if n < 0 then [45] else []) ++ Lib.decDigits (absI n / 1000000).toNat ++ (if Lib.trimRightB (Lib.decDigits (absI n % 1000000 + 1000000).toNat).tail 48 = [] then [] else 46 :: Lib.trimRightB (Lib.decDigits (absI n % 1000000 + 1000000).toNat).tail 48)) := rfl
  have lA := dec_len (u := (absI n / 1000000).toNat) (by omega)
  have lB := dec_len (u := (absI n % 1000000 + 1000000).toNat) (by omega)
  have pB := dec_pos (absI n % 1000000 + 1000000).toNat
  generalize Lib.decDigits (absI n / 1000000).toNat = A at *
  generalize Lib.decDigits (absI n % 1000000 + 1000000).toNat = B at *
  have HZ := hide (fun W : World => rsize_any n W n1 n2)
  have ht := ba_tail B
  have lT : B.tail.length ≤ 20 := by rw [List.length_tail]; omega
  generalize B.tail = T at *
  by_cases hn : n < 0
  · go_enter Tryz.func39, Tryz.ntmps39
    go_wp2_with (first | (go_at_call 37; refine (rfits_any _ _).mono ?_; rintro e w' ⟨rfl, rfl⟩) | (go_at_call 18; refine (HZ.out _).mono ?_; rintro e w' ⟨rfl, rfl⟩))
    refine (HF1.out _).mono ?_
    rintro e w1 ⟨rfl, b1⟩
    go_wp2_with (go_at_call 18; refine (HZ.out _).mono ?_; rintro e w1 ⟨rfl, rfl⟩)
    refine (HF2.out _).mono ?_
    rintro e w2 ⟨rfl, b2⟩
    have c2 := b1.trans (b2.mono b1.size)
    clear b1 b2 HF1 HF2 HZ
    go_wp2_with fail
    go_loop [5] (fun v => ∃ g : List UInt8, v = .string ⟨g.toArray⟩ ∧ g.length ≤ 20 ∧ Lib.trimRightB g 48 = Lib.trimRightB T 48) (fun v => strLen v)
    case atStart => exact ⟨T, rfl, lT, rfl⟩
    case round =>
      obtain ⟨g, rfl, hg, htr⟩ := hrel
      have HTr := hide htr
      clear htr
      rcases List.eq_nil_or_concat g with rfl | ⟨g', c, rfl⟩
      · have e0 : Lib.trimRightB T 48 = [] := HTr.out.symm
        rw [e0, if_pos rfl, List.append_nil] at HX
        clear e0
        go_wp2
        go_ret2
        exact ⟨by rw [HX.out, if_pos hn, ← ba_app]; rfl, c2⟩
      · rw [List.concat_eq_append] at hg HTr ⊢
        have hg' : g'.length ≤ 19 := by rw [List.length_append] at hg; simp at hg; exact hg
        have hix := ba_last g' c
        have hex := ba_drop g' c
        by_cases hc : c = 48
        · have tc : ((c.toNat : Int) == 48) = true := by rw [hc]; decide
          have HR : Hid (Lib.trimRightB g' 48 = Lib.trimRightB T 48) := by
            show Lib.trimRightB g' 48 = _
            rw [← HTr.out, hc, trim_snoc]
          clear hc HTr HX
          go_wp2
          go_round
          case rel => exact ⟨g', rfl, by omega, HR.out⟩
          case measure =>
            show (⟨g'.toArray⟩ : ByteArray).size < (⟨(g' ++ [c]).toArray⟩ : ByteArray).size
            show g'.toArray.size < (g' ++ [c]).toArray.size
            simp
        · have tc : ((c.toNat : Int) == 48) = false := by
            rw [beq_eq_false_iff_ne]
            intro e
            have e48 : (48 : UInt8).toNat = 48 := rfl
            exact hc (UInt8.toNat_inj.1 (by omega))
          have e1 : Lib.trimRightB T 48 = g' ++ [c] := by rw [← HTr.out, trim_stop g' hc]
          rw [e1, if_neg (show ¬ (g' ++ [c] = []) by simp)] at HX
          have te : (g' ++ [c]).isEmpty = false := by cases g' <;> rfl
          clear hc e1 HTr
          go_wp2
          go_ret2
          refine ⟨?_, c2⟩
          rw [HX.out, if_pos hn, text_dot2]
          rfl
  · go_enter Tryz.func39, Tryz.ntmps39
    go_wp2_with (first | (go_at_call 37; refine (rfits_any _ _).mono ?_; rintro e w' ⟨rfl, rfl⟩) | (go_at_call 18; refine (HZ.out _).mono ?_; rintro e w' ⟨rfl, rfl⟩))
    refine (HF1.out _).mono ?_
    rintro e w1 ⟨rfl, b1⟩
    go_wp2_with (go_at_call 18; refine (HZ.out _).mono ?_; rintro e w1 ⟨rfl, rfl⟩)
    refine (HF2.out _).mono ?_
    rintro e w2 ⟨rfl, b2⟩
    have c2 := b1.trans (b2.mono b1.size)
    clear b1 b2 HF1 HF2 HZ
    go_wp2_with fail
    go_loop [5] (fun v => ∃ g : List UInt8, v = .string ⟨g.toArray⟩ ∧ g.length ≤ 20 ∧ Lib.trimRightB g 48 = Lib.trimRightB T 48) (fun v => strLen v)
    case atStart => exact ⟨T, rfl, lT, rfl⟩
    case round =>
      obtain ⟨g, rfl, hg, htr⟩ := hrel
      have HTr := hide htr
      clear htr
      rcases List.eq_nil_or_concat g with rfl | ⟨g', c, rfl⟩
      · have e0 : Lib.trimRightB T 48 = [] := HTr.out.symm
        rw [e0, if_pos rfl, List.append_nil] at HX
        clear e0
        go_wp2
        go_ret2
        exact ⟨by rw [HX.out, if_neg (show ¬ n < 0 by omega), ← ba_app]; rfl, c2⟩
      · rw [List.concat_eq_append] at hg HTr ⊢
        have hg' : g'.length ≤ 19 := by rw [List.length_append] at hg; simp at hg; exact hg
        have hix := ba_last g' c
        have hex := ba_drop g' c
        by_cases hc : c = 48
        · have tc : ((c.toNat : Int) == 48) = true := by rw [hc]; decide
          have HR : Hid (Lib.trimRightB g' 48 = Lib.trimRightB T 48) := by
            show Lib.trimRightB g' 48 = _
            rw [← HTr.out, hc, trim_snoc]
          clear hc HTr HX
          go_wp2
          go_round
          case rel => exact ⟨g', rfl, by omega, HR.out⟩
          case measure =>
            show (⟨g'.toArray⟩ : ByteArray).size < (⟨(g' ++ [c]).toArray⟩ : ByteArray).size
            show g'.toArray.size < (g' ++ [c]).toArray.size
            simp
        · have tc : ((c.toNat : Int) == 48) = false := by
            rw [beq_eq_false_iff_ne]
            intro e
            have e48 : (48 : UInt8).toNat = 48 := rfl
            exact hc (UInt8.toNat_inj.1 (by omega))
          have e1 : Lib.trimRightB T 48 = g' ++ [c] := by rw [← HTr.out, trim_stop g' hc]
          rw [e1, if_neg (show ¬ (g' ++ [c] = []) by simp)] at HX
          have te : (g' ++ [c]).isEmpty = false := by cases g' <;> rfl
          clear hc e1 HTr
          go_wp2
          go_ret2
          refine ⟨?_, c2⟩
          rw [HX.out, if_neg (show ¬ n < 0 by omega), text_dot2]
          rfl
end
section
open Go.RowKit
/-- The cell that the search reads holds some number. -/
def CellOk (w : World) : Prop := ∃ m, w.cell? ⟨1, 0, none⟩ = some (.int .i64 m)
theorem cellOk_below {w w' : World} (h : CellOk w) (hb : Below w.heap.size w w') : CellOk w' := by
  obtain ⟨m, hm⟩ := h
  exact ⟨m, cell_later hb hm⟩
end
end Go.Proofs.YtnhaapcpklfkpaaGreatDoor
