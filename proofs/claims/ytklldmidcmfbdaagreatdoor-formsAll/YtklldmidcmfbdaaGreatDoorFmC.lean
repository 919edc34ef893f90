/-
  What is wrong with a call: plain words; the contracts of forms.isRange, isLost, want.
-/
import Derived.Test.YtklldmidcmfbdaaGreatDoorFmG
import Derived.Test.YtklldmidcmfbdaaGreatDoorFmP
import Derived.Lib.MinMax
namespace Go.Proofs.YtklldmidcmfbdaaGreatDoor
open Go.RowKit Go.Shelf

/-- Is a head a range's, or a cell's? -/
def rangeB (h : Hd) : Bool := decide (h.kind = 3) || decide (h.kind = 2)
/-- Is it the lost reference? -/
def lostB (h : Hd) : Bool := decide (h.kind = 1) && (decide (h.vk = 4) && decide (h.vn = 0) && decide (h.vs = []) && !h.vb && decide (h.vc = 3))
/-- What a letter wants. -/
def wantN (c : UInt8) : Int := if c = 86 then 1 else if c = 82 then 2 else 3
/-- What is wanted of an argument, counted from 0 on. -/
def wantAt (ws : ByteArray) (i : Nat) : Int := wantN (ws.data.toList.getD (min i (ws.size - 1)) 0)
/-- Is one of these kids no range where one is wanted? -/
def badArg (ws : ByteArray) : Nat → Fo → Bool
  | _, .nil => false
  | i, .cons h _ r => (decide (wantAt ws i = 2) && !rangeB h && !lostB h) || badArg ws (i + 1) r
/-- What is wrong with a call. -/
def callE (h : Hd) (k : Fo) : Int := match findF ⟨h.txt.toArray⟩ with
  | none => 8
  | some f => if (k.len : Int) < f.least ∨ f.most < (k.len : Int) then 10 else if badArg f.wants 0 k = true then 2 else 0
theorem fns_fine : fnsL.all (fun f => decide (f.wants.size ≤ 4) && (decide (f.most = 0) || decide (1 ≤ f.wants.size)) && decide (0 ≤ f.least) && decide (f.least ≤ f.most) && decide (f.most ≤ 30)) = true := by kernel_rfl
theorem fn_fine {f : Fu} (h : f ∈ fnsL) : f.wants.size ≤ 4 ∧ (f.most = 0 ∨ 1 ≤ f.wants.size) ∧ 0 ≤ f.least ∧ f.least ≤ f.most ∧ f.most ≤ 30 := by
  have := List.all_eq_true.1 fns_fine f h
  simp only [Bool.and_eq_true, Bool.or_eq_true, decide_eq_true_eq] at this
  omega
theorem find_mem {s : ByteArray} {f : Fu} (h : findF s = some f) : f ∈ fnsL := List.mem_of_find?_eq_some h
set_option maxHeartbeats 1000000 in
theorem isRange_any (h : Hd) (b o : Nat) (w : World) (hc : w.cell? ⟨b, o, none⟩ = some (.int .i64 h.kind)) :
    Calls Tryz.prog 43 #[.pointer (some ⟨b, o, none⟩)] w fun e w' => e = .returned (.bool (rangeB h)) ∧ w' = w := by
  unfold rangeB
  generalize h.kind = q at *
  by_cases h3 : q = 3
  · subst h3
    go_enter Tryz.func43, Tryz.ntmps43
    go_wp2
    go_ret
    exact ⟨by simp, rfl⟩
  · have e3 : (q == 3) = false := by simpa using h3
    by_cases h2 : q = 2
    · subst h2
      go_enter Tryz.func43, Tryz.ntmps43
      go_wp2
      go_ret
      exact ⟨by simp, rfl⟩
    · have e2 : (q == 2) = false := by simpa using h2
      go_enter Tryz.func43, Tryz.ntmps43
      go_wp2
      go_ret
      exact ⟨by simp [h3, h2], rfl⟩
set_option maxHeartbeats 2000000 in
theorem isLost_any (h : Hd) (v : Value) (b o : Nat) (w : World) (hc : ∀ j, j < 16 → w.cell? ⟨b, o + j, none⟩ = (hdC h v)[j]?) :
    Calls Tryz.prog 48 #[.pointer (some ⟨b, o, none⟩)] w fun e w' => e = .returned (.bool (lostB h)) ∧ w' = w := by
  have c0 : w.cell? ⟨b, o, none⟩ = some (.int .i64 h.kind) := hc 0 (by omega)
  have c1 : w.cell? ⟨b, o + 1, none⟩ = some (.int .i64 h.vk) := hc 1 (by omega)
  have c2 : w.cell? ⟨b, o + 1 + 1, none⟩ = some (.int .i64 h.vn) := hc 2 (by omega)
  have c3 : w.cell? ⟨b, o + 1 + 2, none⟩ = some (.string ⟨h.vs.toArray⟩) := hc 3 (by omega)
  have c4 : w.cell? ⟨b, o + 1 + 3, none⟩ = some (.bool h.vb) := hc 4 (by omega)
  have c5 : w.cell? ⟨b, o + 1 + 4, none⟩ = some (.int .i64 h.vc) := hc 5 (by omega)
  clear hc
  unfold lostB
  obtain ⟨q, vk, vn, vs, vb, vc, _, _, _, _, _, _, _, _, _⟩ := h
  simp only at *
  by_cases h1 : q = 1
  · subst h1
    go_enter Tryz.func48, Tryz.ntmps48
    go_wp2
    all_goals go_ret
    all_goals exact ⟨by simp_all, rfl⟩
  · have e1 : (q == 1) = false := by simpa using h1
    go_enter Tryz.func48, Tryz.ntmps48
    go_wp2
    go_ret
    exact ⟨by simp [h1], rfl⟩
set_option maxHeartbeats 2000000 in
theorem want_any (x y : Int) (ws : ByteArray) (i : Nat) (w : World) (h1 : 1 ≤ ws.size) (h4 : ws.size ≤ 4) :
    Calls Tryz.prog 26 #[.agg #[.int .i64 x, .int .i64 y, .string ws], .int .i64 (i : Int)] w fun e w' => e = .returned (.int .i64 (wantAt ws i)) ∧ Below w.heap.size w w' := by
  have hw : IntKind.i64.wrap ((ws.size : Int) - 1) = ((ws.size - 1 : Nat) : Int) := by rw [wrap_le (by omega) (by omega)]; omega
  have hm : min (i : Int) ((ws.size - 1 : Nat) : Int) = ((min i (ws.size - 1) : Nat) : Int) := by omega
  have hl : min i (ws.size - 1) < ws.size := by omega
  unfold wantAt
  obtain ⟨m, hmm⟩ : ∃ m, min i (ws.size - 1) = m := ⟨_, rfl⟩
  rw [hmm] at hm hl ⊢
  have hg : ws.data.toList.getD m 0 = ws[m] := by
    rw [List.getD_eq_getElem?_getD, List.getElem?_eq_getElem (by simpa using hl)]
    simp [ByteArray.getElem_eq_getElem_data]
  rw [hg]
  have hli : (m : Int) < (ws.size : Int) := by omega
  clear hg hmm
  unfold wantN
  by_cases hV : ws[m] = 86
  · have eV : ((ws[m].toNat : Int) == 86) = true := by rw [hV]; rfl
    rw [if_pos hV]
    go_enter Tryz.func26, Tryz.ntmps26
    go_wp2
    go_ret
    exact ⟨rfl, (Below.refl _ _).alloc (Nat.le_refl _) _⟩
  · have eV : ((ws[m].toNat : Int) == 86) = false := by
      rw [beq_eq_false_iff_ne]
      intro e
      exact hV (UInt8.toNat_inj.1 (by have : ws[m].toNat = 86 := by omega
                                      rw [this]; rfl))
    rw [if_neg hV]
    by_cases hR : ws[m] = 82
    · have eR : ((ws[m].toNat : Int) == 82) = true := by rw [hR]; rfl
      rw [if_pos hR]
      go_enter Tryz.func26, Tryz.ntmps26
      go_wp2
      go_ret
      exact ⟨rfl, (Below.refl _ _).alloc (Nat.le_refl _) _⟩
    · have eR : ((ws[m].toNat : Int) == 82) = false := by
        rw [beq_eq_false_iff_ne]
        intro e
        exact hR (UInt8.toNat_inj.1 (by have : ws[m].toNat = 82 := by omega
                                        rw [this]; rfl))
      rw [if_neg hR]
      go_enter Tryz.func26, Tryz.ntmps26
      go_wp2
      go_ret
      exact ⟨rfl, (Below.refl _ _).alloc (Nat.le_refl _) _⟩
end Go.Proofs.YtklldmidcmfbdaaGreatDoor
