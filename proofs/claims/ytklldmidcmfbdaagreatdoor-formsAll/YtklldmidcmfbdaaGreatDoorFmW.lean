/-
  The answer's words: plain words, its contract.
-/
import Derived.Test.YtklldmidcmfbdaaGreatDoorFmG
import Derived.Laws.Append
import Derived.Deep.Onto
namespace Go.Proofs.YtklldmidcmfbdaaGreatDoor
open Go.RowKit Go.Shelf

/-- The words of a text, parted by blanks; a word that is begun. -/
def wd : List UInt8 → List UInt8 → List (List UInt8)
  | cur, [] => if cur = [] then [] else [cur]
  | cur, c :: r => if c = 32 then (if cur = [] then wd [] r else cur :: wd [] r) else wd (cur ++ [c]) r
def wordsB (s : ByteArray) : List ByteArray := (wd [] s.data.toList).map fun l => ⟨l.toArray⟩
/-- What a text takes in memory. -/
noncomputable def strI : TypeInfo := (Tryz.prog.info? 9).get (by kernel_rfl)
theorem strI_info : Tryz.prog.info? 9 = some strI := by kernel_rfl
theorem strI_zero : strI.zero = some (.string ⟨#[]⟩) := by kernel_rfl
theorem strI_size : strI.size = 1 := by kernel_rfl
theorem strI_bytes : strI.bytes = 16 := by kernel_rfl
theorem strs_under : Tryz.prog.underlying 48 = some (.slice 9) := by kernel_rfl
theorem cells_newW (W : World) (arr : Array Value) (t : TypeId) (j : Nat) (u : Value) (h : arr.toList[j]? = some u) : (W.alloc (.cells arr t)).cell? ((⟨W.heap.size, 0, none⟩ : Addr).add j) = some u := by
  have hadd : (⟨W.heap.size, 0, none⟩ : Addr).add j = ⟨W.heap.size, j, none⟩ := by unfold Addr.add; split <;> simp_all
  rw [hadd]
  have := World.alloc_heap_new W (.cells arr t)
  simp only [World.cell?, this]
  simpa using h
open Go.RowKit Go.Shelf
theorem ext_is (s : ByteArray) (f i : Nat) : s.extract f i = ⟨((s.data.toList.drop f).take (i - f)).toArray⟩ := by
  have h : (s.extract f i).data.toList = (s.data.toList.drop f).take (i - f) := by simp [List.extract_eq_take_drop]
  cases hx : s.extract f i with
  | mk d =>
    rw [hx] at h
    simp only at h
    rw [← h]
theorem wd_blank (cur r : List UInt8) (h : cur ≠ []) : wd cur (32 :: r) = cur :: wd [] r := by simp [wd, h]
theorem wd_blank0 (r : List UInt8) : wd [] (32 :: r) = wd [] r := by simp [wd]
theorem wd_more (cur r : List UInt8) (c : UInt8) (h : c ≠ 32) : wd cur (c :: r) = wd (cur ++ [c]) r := by simp [wd, h]
theorem wd_end (cur : List UInt8) (h : cur ≠ []) : wd cur [] = [cur] := by simp [wd, h]
set_option maxRecDepth 100000 in
set_option maxHeartbeats 4000000 in
theorem words_any (s : ByteArray) (w : World) (hs : s.size ≤ 1000) : Calls Tryz.prog 15 #[.string s] w fun e w' => ∃ v, e = .returned v ∧ w'.ownsRow w.heap.size 9 1 v (wordsB s).length ((wordsB s).map Value.string) ∧ Below w.heap.size w w' := by
  have HL : Hid (s.data.toList.length = s.size) := by show _ = _; simp
  go_enter Tryz.func15, Tryz.ntmps15
  go_wp2
  go_loopw [3, 4, 5] (fun ov fv iv wr => ∃ (i f : Nat) (pre : List (List UInt8)), iv = .int .i64 i ∧ fv = .int .i64 f ∧ pre.length ≤ i ∧ ((f ≤ i ∧ i ≤ s.size ∧ pre ++ wd ((s.data.toList.drop f).take (i - f)) (s.data.toList.drop i) = wd [] s.data.toList) ∨ (i = s.size + 1 ∧ pre = wd [] s.data.toList)) ∧ wr.ownsRow w.heap.size 9 1 ov pre.length (pre.map fun l => Value.string ⟨l.toArray⟩) ∧ Below w.heap.size w wr) (fun _ _ iv _ => s.size + 2 - (intOf iv).toNat)
  case atStart => exact ⟨0, 0, [], rfl, rfl, Nat.le_refl _, .inl ⟨Nat.le_refl _, Nat.zero_le _, rfl⟩, World.ownsRow_nil _ _ _ _, Below.refl _ _⟩
  case round =>
    obtain ⟨i, f, pre, rfl, rfl, hpl, hx, hown, hB⟩ := hrel
    have hbs := hB.size
    have HOW := hide hown
    have hwi : i ≤ 2000 → IntKind.i64.wrap ((i : Int) + 1) = (i : Int) + 1 := fun h => by rw [IntKind.wrap_i64]; omega
    rcases hx with ⟨hfi, his, hx⟩ | ⟨rfl, hx⟩
    · have g1 : (i : Int) ≤ s.size := by omega
      have hw1 := hwi (by omega)
      have HC : Hid (f < i → (s.data.toList.drop f).take (i - f) ≠ []) := fun h e => by
        have := congrArg List.length e
        rw [List.length_take, List.length_drop, HL.out, List.length_nil] at this
        omega
      have HE : Hid ((pre.map fun l => Value.string ⟨l.toArray⟩) ++ [.string (s.extract f i)] = ((pre ++ [(s.data.toList.drop f).take (i - f)]).map fun l => Value.string ⟨l.toArray⟩)) := by
        show _ = _
        rw [ext_is]
        simp
      by_cases hlt : i < s.size
      · have e0 : ((i : Int) == (s.size : Int)) = false := by rw [beq_eq_false_iff_ne]; omega
        have hd : s.data.toList.drop i = s[i] :: s.data.toList.drop (i + 1) := by
          rw [List.drop_eq_getElem_cons (by have := HL.out; omega), ByteArray.getElem_eq_getElem_data, ← Array.getElem_toList]
        by_cases h32 : s[i].toNat = 32
        · have e32 : ((s[i].toNat : Int) == 32) = true := by rw [beq_iff_eq]; omega
          have hb : s[i] = 32 := UInt8.toNat_inj.1 (by simpa using h32)
          rw [hd, hb] at hx
          by_cases hf : f < i
          · have g2 : (f : Int) < (i : Int) := by omega
            have HX : Hid ((pre ++ [(s.data.toList.drop f).take (i - f)]) ++ wd ((s.data.toList.drop (i + 1)).take (i + 1 - (i + 1))) (s.data.toList.drop (i + 1)) = wd [] s.data.toList) := by
              show _ = _
              rw [← hx, wd_blank _ _ (HC.out hf), Nat.sub_self, List.take_zero]
              simp
            clear hx hd hb h32 hown hf
            go_wp2_with (first | (at_builtin; refine wpList_append_own _ rfl _ _ 48 rfl w.heap.size 9 strI (.string ⟨#[]⟩) 1 16 strs_under strI_info strI_zero strI_size strI_bytes rfl (by decide) _ _ _ rfl (HOW.out.alloc _) ⟨wr.heap.size, 0, none⟩ 1 1 [.string (s.extract f i)] rfl rfl (fun j u hj => cells_newW wr _ _ j u hj) (by simp [Value.oneCell']) (by unfold maxLen; omega) (by omega) (by simp; omega) ?_; intro v' w2 hown' hgrow _; have hB2 := hide (((hB.alloc hbs (.cells #[.string (s.extract f i)] 9)).grown hgrow (by simp; omega) (fun j hj => (HOW.out.lt j hj).1))); obtain ⟨gv, capv, rfl⟩ := ownsRow_succ hown'; have HR := hide hown'; clear hown' hgrow) | go_in)
            go_wp2
            go_roundw
            case rel => exact ⟨i + 1, i + 1, pre ++ [(s.data.toList.drop f).take (i - f)], by go_num, by go_num, by simp; omega, .inl ⟨Nat.le_refl _, by omega, HX.out⟩, by have h5 := HR.out; rw [HE.out] at h5; simpa using h5, hB2.out⟩
            case measure => simp [intOf]; omega
          · have g2 : ¬ (f : Int) < (i : Int) := by omega
            obtain rfl : f = i := by omega
            have HX : Hid (pre ++ wd ((s.data.toList.drop (f + 1)).take (f + 1 - (f + 1))) (s.data.toList.drop (f + 1)) = wd [] s.data.toList) := by
              show _ = _
              rw [← hx, Nat.sub_self, List.take_zero, Nat.sub_self, List.take_zero, wd_blank0]
            clear hx hd hb h32 hown hf
            go_wp2
            go_roundw
            case rel => exact ⟨f + 1, f + 1, pre, by go_num, by go_num, by omega, .inl ⟨Nat.le_refl _, by omega, HX.out⟩, HOW.out, hB⟩
            case measure => simp [intOf]; omega
        · have e32 : ((s[i].toNat : Int) == 32) = false := by rw [beq_eq_false_iff_ne]; omega
          have HX : Hid (pre ++ wd ((s.data.toList.drop f).take (i + 1 - f)) (s.data.toList.drop (i + 1)) = wd [] s.data.toList) := by
            show _ = _
            rw [hd, wd_more _ _ _ (fun e => h32 (by rw [e]; rfl))] at hx
            rw [← hx, show i + 1 - f = i - f + 1 by omega, List.take_add_one, List.getElem?_drop, show f + (i - f) = i by omega]
            rw [List.getElem?_eq_getElem (by have := HL.out; omega), ByteArray.getElem_eq_getElem_data, ← Array.getElem_toList]
            rfl
          clear hx hd h32 hown
          go_wp2
          go_roundw
          case rel => exact ⟨i + 1, f, pre, by go_num, rfl, by omega, .inl ⟨by omega, by omega, HX.out⟩, HOW.out, hB⟩
          case measure => simp [intOf]; omega
      · obtain rfl : i = s.size := by omega
        have e0 : ((s.size : Int) == (s.size : Int)) = true := by simp
        have hd : s.data.toList.drop s.size = [] := List.drop_of_length_le (by have := HL.out; omega)
        rw [hd] at hx
        by_cases hf : f < s.size
        · have g2 : (f : Int) < (s.size : Int) := by omega
          have HX : Hid (pre ++ [(s.data.toList.drop f).take (s.size - f)] = wd [] s.data.toList) := by
            show _ = _
            rw [← hx, wd_end _ (HC.out hf)]
          clear hx hd hown hf
          go_wp2_with (first | (at_builtin; refine wpList_append_own _ rfl _ _ 48 rfl w.heap.size 9 strI (.string ⟨#[]⟩) 1 16 strs_under strI_info strI_zero strI_size strI_bytes rfl (by decide) _ _ _ rfl (HOW.out.alloc _) ⟨wr.heap.size, 0, none⟩ 1 1 [.string (s.extract f s.size)] rfl rfl (fun j u hj => cells_newW wr _ _ j u hj) (by simp [Value.oneCell']) (by unfold maxLen; omega) (by omega) (by simp; omega) ?_; intro v' w2 hown' hgrow _; have hB2 := hide (((hB.alloc hbs (.cells #[.string (s.extract f s.size)] 9)).grown hgrow (by simp; omega) (fun j hj => (HOW.out.lt j hj).1))); obtain ⟨gv, capv, rfl⟩ := ownsRow_succ hown'; have HR := hide hown'; clear hown' hgrow) | go_in)
          go_wp2
          go_roundw
          case rel => exact ⟨s.size + 1, s.size + 1, pre ++ [(s.data.toList.drop f).take (s.size - f)], by go_num, by go_num, by simp; omega, .inr ⟨rfl, HX.out⟩, by have h5 := HR.out; rw [HE.out] at h5; simpa using h5, hB2.out⟩
          case measure => simp [intOf]
        · have g2 : ¬ (f : Int) < (s.size : Int) := by omega
          obtain rfl : f = s.size := by omega
          have HX : Hid (pre = wd [] s.data.toList) := by
            show _ = _
            rw [← hx, Nat.sub_self, List.take_zero]
            simp [wd]
          clear hx hd hown hf
          go_wp2
          go_roundw
          case rel => exact ⟨s.size + 1, s.size + 1, pre, by go_num, by go_num, by omega, .inr ⟨rfl, HX.out⟩, HOW.out, hB⟩
          case measure => simp [intOf]
    · have g1 : ¬ ((s.size : Int) + 1 ≤ s.size) := by omega
      have g1' : ¬ (((s.size + 1 : Nat) : Int) ≤ s.size) := by omega
      have HF : Hid (wr.ownsRow w.heap.size 9 1 u3 (wordsB s).length ((wordsB s).map Value.string)) := by
        show World.ownsRow _ _ _ _ _ _ _
        have h5 := HOW.out
        rw [hx] at h5
        unfold wordsB
        rw [List.length_map, List.map_map]
        exact h5
      clear hx hown hpl
      go_wp2
      go_ret
      exact ⟨_, rfl, HF.out, hB⟩
end Go.Proofs.YtklldmidcmfbdaaGreatDoor
