/-
  Signs; the contracts of crit's signAhead, isSign and hasOrder.
-/
import Derived.Test.YtpghgjibpbimeaaGreatDoorKVal4
import Derived.Test.YtpghgjibpbimeaaGreatDoorShelf
import Derived.LoopTactic
namespace Go.Proofs.YtpghgjibpbimeaaGreatDoor
open Go.RowKit
set_option linter.unusedSimpArgs false

def csigns : List (List UInt8) := [[60, 62], [60, 61], [62, 61], [61], [60], [62]]
/-- The longest sign that a text begins with. -/
def aheadR (l : List UInt8) : List UInt8 := match csigns.find? (fun t => Lib.hasPrefix l t) with
  | some t => t
  | none => []
/-- Is a text a sign? -/
def csignB (l : List UInt8) : Bool := csigns.contains l
def CSignsOk (w : World) : Prop := w.var? Tryz.prog "foolscap/crit.signs" = some (csigns.map fun l => Value.string ⟨l.toArray⟩).toArray
theorem gSigns : Tryz.prog.globalNamed "foolscap/crit.signs" = some 1 := by kernel_rfl
theorem csigns_below {w w' : World} (h : CSignsOk w) (hb : Below w.heap.size w w') : CSignsOk w' := Joins.var_stays gSigns h hb (Nat.le_refl _)
theorem csigns_cell {w : World} (h : CSignsOk w) (i : Nat) : w.cell? ⟨1, i, none⟩ = (csigns.map fun l => Value.string ⟨l.toArray⟩)[i]? := by
  rw [World.var?_cell gSigns h i]
  simp
theorem run_csign (arr : Array Value) (k : Nat) (hk : (k : Int) < 6) (T : ByteArray) (h : arr[k]? = some (.string T)) (W : World) : (Instr.index 79 (.agg arr) (.int .i64 (k : Int))).run Tryz.prog W = .ok (.string T) W := by
  have hk' : k < 6 := by omega
  simp [Instr.index, run_underlying Tryz.underlying79, asIntOf, go_sem, hk', h]
def csignL (k : Nat) : List UInt8 := csigns.getD k []
theorem drop_signs {k : Nat} (h : k < 6) : csigns.drop k = csignL k :: csigns.drop (k + 1) := by
  have : k = 0 ∨ k = 1 ∨ k = 2 ∨ k = 3 ∨ k = 4 ∨ k = 5 := by omega
  rcases this with rfl | rfl | rfl | rfl | rfl | rfl <;> rfl
theorem find_miss {l : List UInt8} {k : Nat} (h : k < 6) (hp : Lib.hasPrefix l (csignL k) = false) : (csigns.drop k).find? (fun t => Lib.hasPrefix l t) = (csigns.drop (k + 1)).find? (fun t => Lib.hasPrefix l t) := by
  rw [drop_signs h, List.find?_cons, hp]
theorem find_hit {l : List UInt8} {k : Nat} (h : k < 6) (hp : Lib.hasPrefix l (csignL k) = true) : (csigns.drop k).find? (fun t => Lib.hasPrefix l t) = some (csignL k) := by
  rw [drop_signs h, List.find?_cons, hp]
theorem ahead_none {l : List UInt8} (h : csigns.find? (fun t => Lib.hasPrefix l t) = none) : aheadR l = [] := by unfold aheadR; rw [h]
theorem ahead_some {l t : List UInt8} (h : csigns.find? (fun t => Lib.hasPrefix l t) = some t) : aheadR l = t := by unfold aheadR; rw [h]
theorem ahead_mem {l t : List UInt8} (h : csigns.find? (fun t => Lib.hasPrefix l t) = some t) : t ∈ csigns := List.mem_of_find?_eq_some h
set_option maxHeartbeats 4000000 in
theorem signAhead_any (s : ByteArray) (w : World) (hn : CSignsOk w) :
    Calls Tryz.prog 37 #[.string s] w fun e w' => e = .returned (.string ⟨(aheadR s.data.toList).toArray⟩) ∧ Below w.heap.size w w' := by
  have HP : Hid (∀ (T : ByteArray) (W : World), Calls Tryz.prog 52 #[.string s, .string T] W fun e w' => e = .returned (.bool (Lib.hasPrefix s.data.toList T.data.toList)) ∧ w' = W) := fun T W => Tryz.strings_HasPrefix s T W
  have s0 := csigns_cell hn 0
  have s1 := csigns_cell hn 1
  have s2 := csigns_cell hn 2
  have s3 := csigns_cell hn 3
  have s4 := csigns_cell hn 4
  have s5 := csigns_cell hn 5
  simp only [csigns, List.map_cons, List.map_nil, List.getElem?_cons_zero, List.getElem?_cons_succ] at s0 s1 s2 s3 s4 s5
  clear hn
  have HN0 : Hid (_ → aheadR s.data.toList = []) := hide (ahead_none (l := s.data.toList))
  have HS0 : Hid (∀ t, _ → aheadR s.data.toList = t) := hide (fun t => ahead_some (l := s.data.toList) (t := t))
  generalize aheadR s.data.toList = R at *
  go_enter Tryz.func37, Tryz.ntmps37
  go_wp2
  clear s0 s1 s2 s3 s4 s5
  have HA : Hid (∀ k : Nat, k < 6 → (#[Value.string ⟨#[60, 62]⟩, Value.string ⟨#[60, 61]⟩, Value.string ⟨#[62, 61]⟩, Value.string ⟨#[61]⟩, Value.string ⟨#[60]⟩, Value.string ⟨#[62]⟩] : Array Value)[k]? = some (.string ⟨(csignL k).toArray⟩)) := fun k hk => by
    have : k = 0 ∨ k = 1 ∨ k = 2 ∨ k = 3 ∨ k = 4 ∨ k = 5 := by omega
    rcases this with rfl | rfl | rfl | rfl | rfl | rfl <;> rfl
  have ha : (#[Value.string ⟨#[60, 62]⟩, Value.string ⟨#[60, 61]⟩, Value.string ⟨#[62, 61]⟩, Value.string ⟨#[61]⟩, Value.string ⟨#[60]⟩, Value.string ⟨#[62]⟩] : Array Value).size = 6 := rfl
  generalize (#[Value.string ⟨#[60, 62]⟩, Value.string ⟨#[60, 61]⟩, Value.string ⟨#[62, 61]⟩, Value.string ⟨#[61]⟩, Value.string ⟨#[60]⟩, Value.string ⟨#[62]⟩] : Array Value) = arr at *
  go_loopw [6] (fun i wr => ∃ k : Nat, k ≤ 6 ∧ i = .int .i64 k ∧ csigns.find? (fun t => Lib.hasPrefix s.data.toList t) = (csigns.drop k).find? (fun t => Lib.hasPrefix s.data.toList t) ∧ Below w.heap.size w wr) (fun i _ => 6 - (intOf i).toNat)
  case atStart => exact ⟨0, by omega, rfl, rfl, Below.refl _ _⟩
  case round =>
    obtain ⟨k, hk2, rfl, hp, hB⟩ := hrel
    have HK := hide hp
    clear hp
    by_cases h8 : k = 6
    · have HF : Hid (R = []) := HN0.out (by rw [HK.out, h8]; rfl)
      have g8 : ¬ (k : Int) < 6 := by omega
      clear HP hk2 h8
      go_wp2
      go_ret
      rw [HF.out]
      exact ⟨rfl, hB⟩
    · have g8 : (k : Int) < 6 := by omega
      have hk := HA.out k (by omega)
      have hk3 : k < 6 := by omega
      have HM := hide (fun h => HK.out.trans (find_miss (l := s.data.toList) hk3 h))
      have HH := hide (fun h => HS0.out _ (HK.out.trans (find_hit (l := s.data.toList) hk3 h)))
      have HP' := hide (HP.out ⟨(csignL k).toArray⟩)
      have hT : (⟨(csignL k).toArray⟩ : ByteArray).data.toList = csignL k := by simp
      rw [hT] at HP'
      have hi := run_csign arr k g8 _ hk
      generalize csignL k = L at *
      clear HK hk ha HP h8 hT
      cases hpf : Lib.hasPrefix s.data.toList L
      · rw [hpf] at HP'
        have HM := hide (HM.out hpf)
        clear hpf HH
        go_wp2_with (go_at_call 52; refine (HP'.out _).mono ?_; rintro e wz ⟨rfl, hz⟩; subst wz)
        go_roundw
        case rel => exact ⟨k + 1, by omega, by go_num, HM.out, hB⟩
        case measure => simp [intOf]; omega
      · rw [hpf] at HP'
        have HH := hide (HH.out hpf)
        clear hpf HM
        go_wp2_with (go_at_call 52; refine (HP'.out _).mono ?_; rintro e wz ⟨rfl, hz⟩; subst wz)
        go_ret
        rw [HH.out]
        exact ⟨rfl, hB⟩
theorem sign_ahead (l : List UInt8) : (l ≠ [] ∧ aheadR l = l) ↔ csignB l = true := by
  unfold csignB
  rw [List.contains_iff_mem]
  constructor
  · rintro ⟨h0, h⟩
    unfold aheadR at h
    split at h
    · rename_i t ht
      subst h
      exact ahead_mem ht
    · exact absurd h.symm h0
  · intro h
    simp [csigns] at h
    rcases h with rfl | rfl | rfl | rfl | rfl | rfl <;> decide
set_option maxHeartbeats 1000000 in
theorem isSign_any (s : ByteArray) (w : World) (hn : CSignsOk w) :
    Calls Tryz.prog 23 #[.string s] w fun e w' => e = .returned (.bool (csignB s.data.toList)) ∧ Below w.heap.size w w' := by
  have HS := hide (signAhead_any s w hn)
  have hs := sign_ahead s.data.toList
  have hq : s.toList = s.data.toList := by rw [ByteArray.toList_eq]
  have hT := list_ba (aheadR s.data.toList)
  generalize (⟨(aheadR s.data.toList).toArray⟩ : ByteArray) = T at *
  clear hn
  by_cases h0 : s.data.toList = []
  · have e : csignB s.data.toList = false := by rw [h0]; rfl
    have t1 : (s.toList == []) = true := by rw [hq, h0]; rfl
    have t2 : s.data = #[] := by simpa using h0
    rw [e]
    clear hs h0 e hT
    go_enter Tryz.func23, Tryz.ntmps23
    go_wp2
    go_ret
    exact ⟨rfl, Below.refl _ _⟩
  · have t1 : (s.toList == []) = false := by rw [hq]; simpa using h0
    have t2 : ¬ s.data = #[] := by simpa using h0
    have e : csignB s.data.toList = (T.toList == s.toList) := by
      rw [hT, hq, Bool.eq_iff_iff, ← hs, beq_iff_eq]
      exact ⟨fun h => h.2, fun h => ⟨h0, h⟩⟩
    rw [e]
    have t3 : s.data.isEmpty = false := by simpa using t2
    clear hs h0 e hT
    go_enter Tryz.func23, Tryz.ntmps23
    go_wp2_with (go_at_call 37; refine HS.out.mono ?_; rintro e w1 ⟨rfl, hb1⟩)
    go_ret
    refine ⟨?_, hb1⟩
    rw [hq]
    simp [t3]
/-- Do values of a kind stand below and above one another? -/
def hasOrdB (k : Int) : Bool := decide (k = 1) || decide (k = 2) || decide (k = 3)
set_option maxHeartbeats 1000000 in
theorem hasOrder_any (k : Int) (w : World) : Calls Tryz.prog 49 #[.int .i64 k] w fun e w' => e = .returned (.bool (hasOrdB k)) ∧ w' = w := by
  unfold hasOrdB
  by_cases h1 : k = 1
  · subst h1
    go_enter Tryz.func49, Tryz.ntmps49
    go_wp2
    go_ret
    exact ⟨rfl, rfl⟩
  by_cases h2 : k = 2
  · subst h2
    go_enter Tryz.func49, Tryz.ntmps49
    go_wp2
    go_ret
    exact ⟨rfl, rfl⟩
  by_cases h3 : k = 3
  · subst h3
    go_enter Tryz.func49, Tryz.ntmps49
    go_wp2
    go_ret
    exact ⟨rfl, rfl⟩
  · have e1 : (k == 1) = false := by simp [h1]
    have e2 : (k == 2) = false := by simp [h2]
    have e3 : (k == 3) = false := by simp [h3]
    rw [decide_eq_false h1, decide_eq_false h2, decide_eq_false h3]
    go_enter Tryz.func49, Tryz.ntmps49
    go_wp2
    go_ret
    exact ⟨rfl, rfl⟩
end Go.Proofs.YtpghgjibpbimeaaGreatDoor
