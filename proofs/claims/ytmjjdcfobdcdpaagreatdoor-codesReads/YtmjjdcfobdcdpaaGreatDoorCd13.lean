/-
  A format of words ahead of a number's place; texts through formats without @.
-/
import Derived.Test.YtmjjdcfobdcdpaaGreatDoorCd11
namespace Go.Proofs.YtmjjdcfobdcdpaaGreatDoor
open Go.RowKit
set_option linter.unusedSimpArgs false

theorem index_byte {x : UInt8} : ∀ (W F : List UInt8), (∀ c ∈ W, c ≠ x) → Lib.index (W ++ x :: F) [x] = W.length
  | [], F, _ => by simp [Lib.index]
  | c :: W, F, h => by
    have hne : x ≠ c := fun e => h c (by simp) e.symm
    have ih := index_byte W F (fun d hd => h d (List.mem_cons_of_mem _ hd))
    rw [List.cons_append, Lib.index, ih]
    have e : List.isPrefixOf [x] (c :: (W ++ x :: F)) = false := by simp [List.isPrefixOf, hne]
    rw [e]
    have e2 : ((W.length : Int) == -1) = false := by rw [beq_eq_false_iff_ne]; omega
    rw [e2]; simp
theorem cut_byte {x : UInt8} {W F : List UInt8} (h : ∀ c ∈ W, c ≠ x) : Lib.cut (W ++ x :: F) [x] = (W, F, true) := by
  unfold Lib.cut
  rw [index_byte W F h, if_pos (by omega), Int.toNat_natCast]
  simp
def litT : List UInt8 := [48, 46, 48, 35]
def psT : List Pc := [⟨1, litT⟩]
def psW (s : List UInt8) : List Pc := [⟨0, s⟩, ⟨1, litT⟩]
def codeT (s : List UInt8) : List UInt8 := 34 :: (s ++ 34 :: litT)
theorem first_T (s : List UInt8) (h : ∀ c ∈ s, c ≠ 34) : firstR (codeT s) = some (⟨0, s⟩, s.length + 2) := by
  unfold codeT firstR
  simp only [if_true]
  unfold quotedR
  rw [cut_byte h]
  rfl
theorem pieces_T (s : List UInt8) (h : ∀ c ∈ s, c ≠ 34) : piecesR (codeT s) = some (psW s) := by
  have h1 := first_T s h
  have hl : (codeT s).length = s.length + 6 := by simp [codeT, litT]
  have hd : (codeT s).drop (s.length + 2) = litT := by
    unfold codeT
    rw [List.drop_succ_cons, show s.length + 1 = s.length + 1 from rfl, List.drop_append, List.drop_of_length_le (by omega), show s.length + 1 - s.length = 1 by omega]
    rfl
  have h2 : ∀ k, piecesF (k + 1) litT = some psT := fun k => by
    have h3 : firstR litT = some (⟨1, litT⟩, 4) := by kernel_rfl
    unfold litT at *
    rw [piecesF, h3]
    cases k <;> rfl
  unfold piecesR
  rw [hl]
  unfold codeT at *
  rw [show s.length + 6 = (s.length + 5) + 1 from rfl, piecesF, h1]
  simp only
  rw [hd, show s.length + 5 = (s.length + 4) + 1 from rfl, h2]
  rfl
theorem opt_T (s : List UInt8) (h : ∀ c ∈ s, c ≠ 34) (h5 : s.length ≤ 50) : secsOpt (codeT s) = some [psW s] := by
  have hl : (codeT s).length = s.length + 6 := by simp [codeT, litT]
  unfold secsOpt readR
  rw [hl, if_neg (by omega), pieces_T s h]
  have h1 : (psW s).all (fun p => p.k != 1 || placeB p.t) = true := by
    have : placeB litT = true := by kernel_rfl
    simp [psW, this]
  have h2 : secsR (psW s) = [psW s] := by simp [secsR, secsF, psW]
  have h3 : rightS (psW s) = true := by simp [rightS, kindS, cntK, psW]
  simp only
  rw [h1, h2]
  simp [h3]
theorem opt_lit : secsOpt litT = some [psT] := by kernel_rfl
theorem plc_W (s : List UInt8) : plcOf (psW s) = plcOf psT := by simp [plcOf, psW, psT]
theorem cnt_W (s : List UInt8) : cntK (psW s) 2 = 0 := by simp [cntK, psW]
theorem decs_W (s : List UInt8) : decsI (psW s) = 2 := by
  unfold decsI
  rw [plc_W]; kernel_rfl
theorem kind_W (s : List UInt8) : kindS (psW s) = 1 := by simp [kindS, cntK, psW]
theorem text_W (s : List UInt8) (m : Nat) : secT (plcOf (psW s)) m 0 0 0 [] (psW s) = s ++ numT (plcOf psT) m := by
  rw [plc_W]; simp [secT, pieceT, psW]
theorem text_T (m : Nat) : secT (plcOf psT) m 0 0 0 [] psT = numT (plcOf psT) m := by unfold psT; rw [secT_one]
/-- A number through both formats. -/
theorem texts_num {n : Int} (hf : fitsB n = true) (h0 : 0 ≤ n) (s : List UInt8) (hq : ∀ c ∈ s, c ≠ 34) (h5 : s.length ≤ 50) :
    ∃ A : List UInt8, AppQ litT 1 n ⟨#[]⟩ false 0 A 0 ∧ AppQ (codeT s) 1 n ⟨#[]⟩ false 0 (s ++ A) 0 ∧ A.length ≤ 1000 := by
  obtain ⟨m, r1, r2, r3⟩ := round_fit (n := n) (p := 2) (d := 10000) (K := 100000000000000) hf h0 (by decide) (by decide) (by decide) (by decide)
  have e : max n (-n) = n := by omega
  refine ⟨numT (plcOf psT) m, ?_, ?_, ?_⟩
  · rw [← text_T]
    exact .number opt_lit (check_num hf) (.inr rfl) (.num (ps := psT) (by rw [show chosenR (leftS [psT]).length n = 0 from if_pos (.inl rfl)]; rfl) (by decide) (by rw [e]; exact sized_plain (by kernel_rfl) (by kernel_rfl) r1) (by omega) (fun h => by omega))
  · rw [← text_W]
    have hl := left_one (psW s) (by simp [textB, kind_W])
    exact .number (opt_T s hq h5) (check_num hf) (.inr rfl) (.num (ps := psW s) (by rw [hl, show chosenR [psW s].length n = 0 from if_pos (.inl rfl)]; rfl) (by rw [kind_W]; decide) (by rw [e]; exact sized_plain (cnt_W s) (decs_W s) r1) (by omega) (fun h => by omega))
  · have hp : plcOf psT = ⟨false, true, 1, 1, 1⟩ := by kernel_rfl
    rw [hp]
    have hl := dec_len (u := m / 1000000) (by omega)
    have hz := padTo_len (Lib.decDigits (m % 1000000)) 6
    have hy := cnd_le 5 (m % 1000000) (by omega)
    have hx := Lib.decDigits_length (u := m % 1000000)
    unfold numT wholeT
    simp only [if_true, Bool.false_eq_true, if_false, List.length_append, List.length_cons]
    rw [pad_one]
    have : (fracP ⟨false, true, 1, 1, 1⟩ (m % 1000000)).length ≤ 20 := by
      unfold fracP
      have hd : (fracD ⟨false, true, 1, 1, 1⟩ (m % 1000000)).length ≤ 6 := by
        unfold fracD
        rw [List.length_append, hz]
        simp [Lib.repeatL]
        omega
      have ht := trim_len ((fracD ⟨false, true, 1, 1, 1⟩ (m % 1000000)).drop 1) 48
      simp only [List.length_append, List.length_take, List.length_drop] at *
      omega
    omega
theorem texts_wrong {n : Int} (hf : fitsB n = false) (s : List UInt8) (hq : ∀ c ∈ s, c ≠ 34) (h5 : s.length ≤ 50) : AppQ litT 1 n ⟨#[]⟩ false 0 [] 2 ∧ AppQ (codeT s) 1 n ⟨#[]⟩ false 0 [] 2 := by
  have hv : checkV 1 n ⟨#[]⟩ false 0 = 2 := by unfold checkV rightB; simp [hf]
  exact ⟨.wrong opt_lit hv, .wrong (opt_T s hq h5) hv⟩
theorem check_text {s : ByteArray} (h : s.size ≤ 255) : checkV 2 0 s false 0 = 0 := by
  unfold checkV rightB
  simp [h]
theorem words_text {s : ByteArray} (h : s.size ≤ 255) : wordsV 2 0 s false 0 = (s.data.toList, 0) := by
  have hr : rightB 2 0 s false 0 = true := by unfold rightB; simp [h]
  unfold wordsV
  rw [hr]
  simp only [Bool.true_eq_false, if_false]
  rw [if_neg (by decide), if_neg (by decide), if_neg (by decide)]
/-- Through a format without @ a text goes as it is. -/
theorem text_plain {l : List UInt8} {S : List UInt8} (hp : plainR l = true) (h : S.length ≤ 255) : AppQ l 2 0 ⟨S.toArray⟩ false 0 S 0 := by
  have hz : (⟨S.toArray⟩ : ByteArray).size ≤ 255 := by rw [mk_size]; exact h
  unfold plainR at hp
  cases ho : secsOpt l with
  | none => rw [ho] at hp; cases hp
  | some ss =>
    rw [ho] at hp
    have hp : ss.any notWordsB = false := by simpa using hp
    refine words_lit ho (check_text hz) (.inl rfl) ?_ (by rw [words_text hz])
    rw [words_text hz]
    unfold wordsSS
    have hn : ss.find? textB = none := by
      rw [List.find?_eq_none]
      intro ps hm ht
      have := List.any_eq_false.1 hp ps hm
      unfold notWordsB at this
      unfold textB at ht
      have h4 : kindS ps = 4 := by simpa using ht
      rw [h4] at this
      exact this rfl
    rw [hn]
theorem text_at {S : List UInt8} (h : S.length ≤ 255) : AppQ [64] 2 0 ⟨S.toArray⟩ false 0 S 0 := by
  have hz : (⟨S.toArray⟩ : ByteArray).size ≤ 255 := by rw [mk_size]; exact h
  refine words_lit (ss := [[⟨4, [64]⟩]]) (by kernel_rfl) (check_text hz) (.inl rfl) ?_ (by rw [words_text hz])
  rw [words_text hz]
  unfold wordsSS
  rw [show List.find? textB [[⟨4, [64]⟩]] = some [⟨4, [64]⟩] by kernel_rfl]
  simp [secT, pieceT]
end Go.Proofs.YtmjjdcfobdcdpaaGreatDoor
