/-
  The contracts of codes' writer: digits, partOfDay, whole, itself, by.
-/
import Derived.Test.YtnhaapcpklfkpaaGreatDoorCd4b
import Derived.Test.YtnhaapcpklfkpaaGreatDoorCd2
namespace Go.Proofs.YtnhaapcpklfkpaaGreatDoor
open Go.RowKit

/-- A writer's cells. -/
def wrC (p : Plc) (n y m d : Nat) (x : List UInt8) : List Value :=
  [.bool p.comma, .bool p.point, .int .i64 p.noughts, .int .i64 p.fixed, .int .i64 p.free, .int .i64 n, .int .i64 y, .int .i64 m, .int .i64 d, .string ⟨x.toArray⟩]
def WrAt (w : World) (b : Nat) (p : Plc) (n y m d : Nat) (x : List UInt8) : Prop := w.heap[b]? = some (.cells (wrC p n y m d x).toArray 70 (0, 0))
theorem WrAt.lt {w : World} {b : Nat} {p : Plc} {n y m d : Nat} {x : List UInt8} (h : WrAt w b p n y m d x) : b < w.heap.size := (Array.getElem?_eq_some_iff.1 h).1
theorem WrAt.cell {w : World} {b : Nat} {p : Plc} {n y m d : Nat} {x : List UInt8} (h : WrAt w b p n y m d x) (j : Nat) : w.cell? ⟨b, j, none⟩ = (wrC p n y m d x)[j]? := by
  unfold WrAt at h; simp [World.cell?, h]
theorem WrAt.below {w w' : World} {b : Nat} {p : Plc} {n y m d : Nat} {x : List UInt8} (h : WrAt w b p n y m d x) (k : Below w.heap.size w w') : WrAt w' b p n y m d x := (k.block b h.lt).trans h
/-- A part of a day: its number; its text. -/
def dayN (t : List UInt8) (y m d : Nat) : Nat := if t = [121, 121] then y % 100 else if t = [109, 109] ∨ t = [109] then m else if t = [100, 100] ∨ t = [100] then d else y
def dayT (t : List UInt8) (y m d : Nat) : List UInt8 := padTo (Lib.decDigits (dayN t y m d)) t.length
set_option maxHeartbeats 2000000 in
theorem wwhole_any (b : Nat) (p : Plc) (n y m d : Nat) (x : List UInt8) (q : Pc) (w : World) (h : WrAt w b p n y m d x) :
    Calls Tryz.prog 83 #[.pointer (some ⟨b, 0, none⟩), pcV q] w fun e w' => e = .returned (.string ⟨x.toArray⟩) ∧ Below w.heap.size w w' := by
  have c := (h.below ((Below.refl _ w).alloc (Nat.le_refl _) (.cells #[.int .i64 q.k, .string ⟨q.t.toArray⟩] 93))).cell 9
  have c' : (w.alloc (.cells #[.int .i64 q.k, .string ⟨q.t.toArray⟩] 93)).cell? ⟨b, 9, none⟩ = some (.string ⟨x.toArray⟩) := c
  simp only [pcV]
  clear h c
  go_enter Tryz.func83, Tryz.ntmps83
  go_wp2
  go_ret
  exact ⟨rfl, by repeat' (first | with_reducible exact Below.refl _ _ | with_reducible refine Below.setCell ?_ ?_ _ | with_reducible refine Below.alloc ?_ ?_ _ | with_reducible refine below_drewN ?_ _ | with_reducible refine Below.drew ?_ | with_reducible refine Below.trans ?_ (Below.mono (by assumption) ?_) | with_reducible exact Nat.le_refl _ | with_reducible refine Nat.le_trans ?_ (Below.size (by assumption)) | with_reducible refine Nat.le_trans ?_ (size_alloc _ _) | with_reducible refine Nat.le_trans ?_ (size_set _ _ _) | with_reducible refine Nat.le_trans ?_ (size_drewN _ _) | with_reducible refine Nat.le_trans ?_ (size_drew _) | (simp; done) | (simp; omega) | omega)⟩
set_option maxHeartbeats 2000000 in
theorem itself_any (v : Value) (q : Pc) (w : World) :
    Calls Tryz.prog 84 #[v, pcV q] w fun e w' => e = .returned (.string ⟨q.t.toArray⟩) ∧ Below w.heap.size w w' := by
  simp only [pcV]
  go_enter Tryz.func84, Tryz.ntmps84
  go_wp2
  go_ret
  exact ⟨rfl, by repeat' (first | with_reducible exact Below.refl _ _ | with_reducible refine Below.setCell ?_ ?_ _ | with_reducible refine Below.alloc ?_ ?_ _ | with_reducible refine below_drewN ?_ _ | with_reducible refine Below.drew ?_ | with_reducible refine Below.trans ?_ (Below.mono (by assumption) ?_) | with_reducible exact Nat.le_refl _ | with_reducible refine Nat.le_trans ?_ (Below.size (by assumption)) | with_reducible refine Nat.le_trans ?_ (size_alloc _ _) | with_reducible refine Nat.le_trans ?_ (size_set _ _ _) | with_reducible refine Nat.le_trans ?_ (size_drewN _ _) | with_reducible refine Nat.le_trans ?_ (size_drew _) | (simp; done) | (simp; omega) | omega)⟩
theorem by_num (a : Value) (k : Nat) (w : World) (h : k = 1) : Calls Tryz.prog 57 #[a, .int .i64 k] w fun e w' => e = .returned (.func (.func 81) #[a] #[]) ∧ w' = w := by
  have hmf : ∀ (fn : Fn) (first cap : Array Value) (w : World), (Instr.makeFunc fn first cap).run Tryz.prog w = .ok (.func fn first cap) w := fun _ _ _ _ => rfl
  subst h
  go_enter Tryz.func57, Tryz.ntmps57
  go_wp2
  go_ret
  exact ⟨rfl, rfl⟩
theorem by_day (a : Value) (k : Nat) (w : World) (h : k = 3) : Calls Tryz.prog 57 #[a, .int .i64 k] w fun e w' => e = .returned (.func (.func 82) #[a] #[]) ∧ w' = w := by
  have hmf : ∀ (fn : Fn) (first cap : Array Value) (w : World), (Instr.makeFunc fn first cap).run Tryz.prog w = .ok (.func fn first cap) w := fun _ _ _ _ => rfl
  subst h
  go_enter Tryz.func57, Tryz.ntmps57
  go_wp2
  go_ret
  exact ⟨rfl, rfl⟩
theorem by_text (a : Value) (k : Nat) (w : World) (h : k = 4) : Calls Tryz.prog 57 #[a, .int .i64 k] w fun e w' => e = .returned (.func (.func 83) #[a] #[]) ∧ w' = w := by
  have hmf : ∀ (fn : Fn) (first cap : Array Value) (w : World), (Instr.makeFunc fn first cap).run Tryz.prog w = .ok (.func fn first cap) w := fun _ _ _ _ => rfl
  subst h
  go_enter Tryz.func57, Tryz.ntmps57
  go_wp2
  go_ret
  exact ⟨rfl, rfl⟩
theorem by_self (a : Value) (k : Nat) (w : World) (h1 : k ≠ 1) (h3 : k ≠ 3) (h4 : k ≠ 4) : Calls Tryz.prog 57 #[a, .int .i64 k] w fun e w' => e = .returned (.func (.func 84) #[a] #[]) ∧ w' = w := by
  have hmf : ∀ (fn : Fn) (first cap : Array Value) (w : World), (Instr.makeFunc fn first cap).run Tryz.prog w = .ok (.func fn first cap) w := fun _ _ _ _ => rfl
  have t1 : ((k : Int) == 1) = false := by rw [beq_eq_false_iff_ne]; omega
  have t3 : ((k : Int) == 3) = false := by rw [beq_eq_false_iff_ne]; omega
  have t4 : ((k : Int) == 4) = false := by rw [beq_eq_false_iff_ne]; omega
  clear h1 h3 h4
  go_enter Tryz.func57, Tryz.ntmps57
  go_wp2
  go_ret
  exact ⟨rfl, rfl⟩
/-- What is held while a number is written. -/
def DgS (b : Nat) (p : Plc) (n : Nat) (w X : World) : Prop := X.cell? ⟨b, 0, none⟩ = some (.bool p.comma) ∧ X.cell? ⟨b, 1, none⟩ = some (.bool p.point) ∧ X.cell? ⟨b, 2, none⟩ = some (.int .i64 p.noughts) ∧ X.cell? ⟨b, 3, none⟩ = some (.int .i64 p.fixed) ∧ X.cell? ⟨b, 4, none⟩ = some (.int .i64 p.free) ∧ X.cell? ⟨b, 5, none⟩ = some (.int .i64 n) ∧ b < X.heap.size ∧ Below w.heap.size w X
theorem DgS.out {b : Nat} {p : Plc} {n : Nat} {w X : World} (h : DgS b p n w X) : Below w.heap.size w X := h.2.2.2.2.2.2.2
theorem DgS.below {b : Nat} {p : Plc} {n : Nat} {w X Y : World} (h : DgS b p n w X) (k : Below X.heap.size X Y) : DgS b p n w Y := by
  obtain ⟨h0, h1, h2, h3, h4, h5, hb, hB⟩ := h
  obtain ⟨hc, _⟩ := cbcell k
  exact ⟨(hc b 0 hb).trans h0, (hc b 1 hb).trans h1, (hc b 2 hb).trans h2, (hc b 3 hb).trans h3, (hc b 4 hb).trans h4, (hc b 5 hb).trans h5, Nat.lt_of_lt_of_le hb k.size, up hB k⟩
theorem DgS.drew {b : Nat} {p : Plc} {n : Nat} {w X : World} (h : DgS b p n w X) : DgS b p n w X.drew := h.below (Below.refl _ _).drew
set_option maxHeartbeats 4000000 in
theorem digits_any (b : Nat) (p : Plc) (n y m d : Nat) (x : List UInt8) (q : Pc) (w : World) (h : WrAt w b p n y m d x) (hn : n ≤ 9223372036854775807) (hp : p.noughts ≤ 1000) (hf : p.fixed ≤ 1000) (ht : TabOk w) :
    Calls Tryz.prog 81 #[.pointer (some ⟨b, 0, none⟩), pcV q] w fun e w' => e = .returned (.string ⟨(numT p n).toArray⟩) ∧ Below w.heap.size w w' := by
  have HW : Hid (∀ W : World, Below w.heap.size w W → Calls Tryz.prog 117 #[plcV p, .int .i64 n] W fun e w' => e = .returned (.string ⟨(numT p n).toArray⟩) ∧ Below W.heap.size W w') := fun W hW => cwrite_any p n W hn hp hf (tab_below ht hW)
  have hA : Below w.heap.size w (w.alloc (.cells #[.int .i64 q.k, .string ⟨q.t.toArray⟩] 93)) := (Below.refl _ w).alloc (Nat.le_refl _) _
  have k := (h.below hA).cell
  have HS : Hid ((w.alloc (.cells #[.int .i64 q.k, .string ⟨q.t.toArray⟩] 93)).drew.cell? ⟨b, 0, none⟩ = some (.bool p.comma) ∧ (w.alloc (.cells #[.int .i64 q.k, .string ⟨q.t.toArray⟩] 93)).drew.cell? ⟨b, 1, none⟩ = some (.bool p.point) ∧ (w.alloc (.cells #[.int .i64 q.k, .string ⟨q.t.toArray⟩] 93)).drew.cell? ⟨b, 2, none⟩ = some (.int .i64 p.noughts) ∧ (w.alloc (.cells #[.int .i64 q.k, .string ⟨q.t.toArray⟩] 93)).drew.cell? ⟨b, 3, none⟩ = some (.int .i64 p.fixed) ∧ (w.alloc (.cells #[.int .i64 q.k, .string ⟨q.t.toArray⟩] 93)).drew.cell? ⟨b, 4, none⟩ = some (.int .i64 p.free) ∧ (w.alloc (.cells #[.int .i64 q.k, .string ⟨q.t.toArray⟩] 93)).drew.cell? ⟨b, 5, none⟩ = some (.int .i64 n) ∧ b < (w.alloc (.cells #[.int .i64 q.k, .string ⟨q.t.toArray⟩] 93)).drew.heap.size ∧ Below w.heap.size w (w.alloc (.cells #[.int .i64 q.k, .string ⟨q.t.toArray⟩] 93)).drew) :=
    ⟨k 0, k 1, k 2, k 3, k 4, k 5, (h.below hA).lt, hA.drew⟩
  simp only [plcV] at HW
  simp only [pcV]
  clear h hn hp hf ht hA k
  generalize numT p n = T at *
  go_enter Tryz.func81, Tryz.ntmps81
  go_wp2_with fail
  go_region_held3 (fun X => X.cell? ⟨b, 0, none⟩ = some (.bool p.comma) ∧ X.cell? ⟨b, 1, none⟩ = some (.bool p.point) ∧ X.cell? ⟨b, 2, none⟩ = some (.int .i64 p.noughts) ∧ X.cell? ⟨b, 3, none⟩ = some (.int .i64 p.fixed) ∧ X.cell? ⟨b, 4, none⟩ = some (.int .i64 p.free) ∧ X.cell? ⟨b, 5, none⟩ = some (.int .i64 n) ∧ b < X.heap.size ∧ Below w.heap.size w X) (first | exact HS.out | assumption | exact DgS.drew (by assumption)) (first | (go_at_call 117; refine (HW.out _ (DgS.out (by assumption))).mono ?_; rintro e w2 ⟨rfl, hb2⟩; have hs2 := DgS.below (by assumption) hb2))
  all_goals go_wp2
  all_goals go_ret
  all_goals exact ⟨rfl, DgS.out (by assumption)⟩
/-- What is held while a part of a day is written. -/
def PdS (t : ByteArray) (w X : World) : Prop := X.cell? ⟨w.heap.size, 1, none⟩ = some (.string t) ∧ w.heap.size < X.heap.size ∧ Below w.heap.size w X
theorem PdS.out {t : ByteArray} {w X : World} (h : PdS t w X) : Below w.heap.size w X := h.2.2
theorem PdS.below {t : ByteArray} {w X Y : World} (h : PdS t w X) (k : Below X.heap.size X Y) : PdS t w Y :=
  ⟨(k.cell (p := ⟨w.heap.size, 1, none⟩) h.2.1).trans h.1, Nat.lt_of_lt_of_le h.2.1 k.size, up h.2.2 k⟩
theorem PdS.drew {t : ByteArray} {w X : World} (h : PdS t w X) : PdS t w X.drew := h.below (Below.refl _ _).drew
theorem day_key (t : List UInt8) (y m d : Nat) : ((t == [121, 121]) = true ∧ dayN t y m d = y % 100) ∨ ((t == [121, 121]) = false ∧ (t == [109, 109]) = true ∧ dayN t y m d = m) ∨ ((t == [121, 121]) = false ∧ (t == [109, 109]) = false ∧ (t == [109]) = true ∧ dayN t y m d = m) ∨ ((t == [121, 121]) = false ∧ (t == [109, 109]) = false ∧ (t == [109]) = false ∧ (t == [100, 100]) = true ∧ dayN t y m d = d) ∨ ((t == [121, 121]) = false ∧ (t == [109, 109]) = false ∧ (t == [109]) = false ∧ (t == [100, 100]) = false ∧ (t == [100]) = true ∧ dayN t y m d = d) ∨ ((t == [121, 121]) = false ∧ (t == [109, 109]) = false ∧ (t == [109]) = false ∧ (t == [100, 100]) = false ∧ (t == [100]) = false ∧ dayN t y m d = y) := by
  unfold dayN
  simp only [beq_eq_false_iff_ne, beq_iff_eq, ne_eq]
  by_cases h1 : t = [121, 121]
  · simp [h1]
  by_cases h2 : t = [109, 109]
  · simp [h2]
  by_cases h3 : t = [109]
  · simp [h3]
  by_cases h4 : t = [100, 100]
  · simp [h4]
  by_cases h5 : t = [100]
  · simp [h5]
  simp [h1, h2, h3, h4, h5]
set_option maxHeartbeats 8000000 in
theorem wpart_any (b : Nat) (p : Plc) (n y m d : Nat) (x : List UInt8) (q : Pc) (w : World) (h : WrAt w b p n y m d x) (hy : y ≤ 100000) (hm : m ≤ 100000) (hd : d ≤ 100000) (hq : q.t.length ≤ 1000) (ht : TabOk w) :
    Calls Tryz.prog 82 #[.pointer (some ⟨b, 0, none⟩), pcV q] w fun e w' => e = .returned (.string ⟨(dayT q.t y m d).toArray⟩) ∧ Below w.heap.size w w' := by
  have hA : Below w.heap.size w (w.alloc (.cells #[.int .i64 q.k, .string ⟨q.t.toArray⟩] 93)) := (Below.refl _ w).alloc (Nat.le_refl _) _
  have k := (h.below hA).cell
  have k6 : (w.alloc (.cells #[.int .i64 q.k, .string ⟨q.t.toArray⟩] 93)).cell? ⟨b, 6, none⟩ = some (.int .i64 y) := k 6
  have k7 : (w.alloc (.cells #[.int .i64 q.k, .string ⟨q.t.toArray⟩] 93)).cell? ⟨b, 7, none⟩ = some (.int .i64 m) := k 7
  have k8 : (w.alloc (.cells #[.int .i64 q.k, .string ⟨q.t.toArray⟩] 93)).cell? ⟨b, 8, none⟩ = some (.int .i64 d) := k 8
  have hN : dayN q.t y m d ≤ 100000 := by unfold dayN; repeat' split
                                          all_goals omega
  have hdl : (Lib.decDigits (dayN q.t y m d)).length ≤ 20 := dec_len (by omega)
  have HI : Hid (∀ W : World, Below w.heap.size w W → Calls Tryz.prog 119 #[.int .i64 (dayN q.t y m d)] W fun e w' => e = .returned (.string ⟨(Lib.decDigits (dayN q.t y m d)).toArray⟩) ∧ Below W.heap.size W w') := fun W hW => itoa_at _ W (by omega) (tab_below ht hW)
  have HP : Hid (∀ W : World, Calls Tryz.prog 118 #[.string ⟨(Lib.decDigits (dayN q.t y m d)).toArray⟩, .int .i64 q.t.length] W fun e w' => e = .returned (.string ⟨(dayT q.t y m d).toArray⟩) ∧ Below W.heap.size W w') := fun W => cpadded_any _ q.t.length W (by omega) (by omega)
  have sz := mk_size q.t
  have HS0 : Hid (PdS ⟨q.t.toArray⟩ w (w.alloc (.cells #[.int .i64 q.k, .string ⟨q.t.toArray⟩] 93)).drew) := ⟨by simp [go_sem], by simp, hA.drew⟩
  have key := day_key q.t y m d
  have hr : (y : Int) % 100 = ((y % 100 : Nat) : Int) := by omega
  have HR := hide hr
  simp only [pcV]
  clear h hA k ht hN hdl hr
  obtain ⟨qk, qt⟩ := q
  simp only at *
  generalize dayT qt y m d = T at *
  generalize hDN : dayN qt y m d = V at *
  generalize Lib.decDigits V = DD at *
  clear hDN
  have hyi : (y : Int) ≤ 100000 := by omega
  rcases key with ⟨q1, e⟩ | ⟨q1, q2, e⟩ | ⟨q1, q2, q3, e⟩ | ⟨q1, q2, q3, q4, e⟩ | ⟨q1, q2, q3, q4, q5, e⟩ | ⟨q1, q2, q3, q4, q5, e⟩
  all_goals
    subst e
    try rw [← HR.out] at HI
    go_enter Tryz.func82, Tryz.ntmps82
    go_wp2_with fail
    go_region_held3 (fun X => X.cell? ⟨w.heap.size, 1, none⟩ = some (.string ⟨qt.toArray⟩) ∧ w.heap.size < X.heap.size ∧ Below w.heap.size w X) (first | exact HS0.out | assumption | exact PdS.drew (by assumption)) (first | (go_at_call 119; refine (HI.out _ (PdS.out (by assumption))).mono ?_; rintro e w2 ⟨rfl, hb2⟩; have hs2 := PdS.below (by assumption) hb2) | (go_at_call 118; refine (HP.out _).mono ?_; rintro e w3 ⟨rfl, hb3⟩; have hs3 := PdS.below (by assumption) hb3))
    all_goals go_wp2
    all_goals go_ret
    all_goals exact ⟨rfl, PdS.out (by assumption)⟩
end Go.Proofs.YtnhaapcpklfkpaaGreatDoor
