/-
  strs' calls.
-/
import Derived.Test.YthooimaadgabiabDoorSt8a
import Derived.Test.YthooimaadgabiabDoorSt8b
import Derived.Test.YthooimaadgabiabDoorSt8c
import Derived.Test.YthooimaadgabiabDoorSt8d
import Derived.Test.YthooimaadgabiabDoorSt8e
import Derived.Test.YthooimaadgabiabDoorSt8f
namespace Go.Proofs.YthooimaadgabiabDoor
open Go.RowKit
set_option linter.unusedSimpArgs false
set_option linter.unusedVariables false


set_option maxRecDepth 100000 in
set_option maxHeartbeats 2000000 in
theorem Left_any (s : By) (n : Int) (w : World) (ms : s.length ≤ maxLen) :
    Calls Tryd.prog 9 #[.string ⟨s.toArray⟩, .int .i64 n] w fun e w' => e = .returned (tupT (lfS s n)) ∧ Below w.heap.size w w' := by
  have hmf : ∀ (fn : Fn) (first cap : Array Value) (w : World), (Instr.makeFunc fn first cap).run Tryd.prog w = .ok (.func fn first cap) w := fun _ _ _ _ => rfl
  have r1 : ∀ (xs : Array Value) (W : World), Sem.run Tryd.prog (callFunc 25 xs) W = .ok (.enter 25 xs) W := enters_of Tryd.func25 (by kernel_rfl) rfl
  have HT : Hid (Calls Tryd.prog 17 #[.func (.func 25) #[] #[.pointer (some ⟨w.heap.size, 0, none⟩), .pointer (some ⟨w.heap.size + 1, 0, none⟩)]] ((w.alloc (.cells #[.string ⟨s.toArray⟩] 9)).alloc (.cells #[.int .i64 n] 3)) fun e w' => e = .returned (tupT (lfS s n)) ∧ Below w.heap.size w w') := by
    obtain ⟨w0, e0⟩ : ∃ x, w.alloc (.cells #[.string ⟨s.toArray⟩] 9) = x := ⟨_, rfl⟩
    rw [e0]
    have z0 : w0.heap.size = w.heap.size + 1 := by rw [← e0, World.size_alloc]
    have k0 : Below w.heap.size w w0 := by rw [← e0]; exact (Below.refl _ _).alloc (Nat.le_refl _) _
    have x0 : Bx w0 w.heap.size (.string ⟨s.toArray⟩) := by
      have hn := World.alloc_heap_new w (.cells #[.string ⟨s.toArray⟩] 9)
      rw [e0] at hn
      unfold Bx; rw [Lib.cell_of_heap hn]; rfl
    obtain ⟨w1, e1⟩ : ∃ x, w0.alloc (.cells #[.int .i64 n] 3) = x := ⟨_, rfl⟩
    rw [e1]
    have z1 : w1.heap.size = w.heap.size + 1 + 1 := by rw [← e1, World.size_alloc, z0]
    have k1 : Below w0.heap.size w0 w1 := by rw [← e1]; exact (Below.refl _ _).alloc (Nat.le_refl _) _
    have x1 : Bx w1 (w.heap.size + 1) (.int .i64 n) := by
      have hn := World.alloc_heap_new w0 (.cells #[.int .i64 n] 3)
      rw [e1, z0] at hn
      unfold Bx; rw [Lib.cell_of_heap hn]; rfl
    have hb : Below w.heap.size w w1 := (k0.trans (k1.mono (by omega)))
    have y0 : Bx w1 w.heap.size (.string ⟨s.toArray⟩) := (x0.below k1)
    have y1 : Bx w1 (w.heap.size + 1) (.int .i64 n) := x1
    exact hide ((told_string _ _ (lfS s n) w1 r1 (fun W hW => cLeft w.heap.size (w.heap.size + 1) s n W (y0.below hW) (y1.below hW) ms)).mono fun e w' ⟨h1, h2⟩ => ⟨h1, hb.trans (h2.mono hb.size)⟩)
  obtain ⟨Z, hZ⟩ : ∃ Z, lfS s n = Z := ⟨_, rfl⟩
  rw [hZ] at HT ⊢
  clear hZ r1
  cases Z with
  | none =>
    simp only [tupT] at HT ⊢
    generalize (⟨s.toArray⟩ : ByteArray) = SB at *
    go_enter Tryd.func9, Tryd.ntmps9
    go_wp2_with (go_at_call 17; refine HT.out.mono ?_; rintro e w9 ⟨rfl, hb9⟩)
    go_ret2
    exact ⟨rfl, hb9⟩
  | some z =>
    simp only [tupT] at HT ⊢
    generalize (⟨s.toArray⟩ : ByteArray) = SB at *
    go_enter Tryd.func9, Tryd.ntmps9
    go_wp2_with (go_at_call 17; refine HT.out.mono ?_; rintro e w9 ⟨rfl, hb9⟩)
    go_ret2
    exact ⟨rfl, hb9⟩

set_option maxRecDepth 100000 in
set_option maxHeartbeats 2000000 in
theorem Mid_any (s : By) (at_ : Int) (n : Int) (w : World) (ms : s.length ≤ maxLen) (na : at_ ≤ 9223372036854775807) :
    Calls Tryd.prog 8 #[.string ⟨s.toArray⟩, .int .i64 at_, .int .i64 n] w fun e w' => e = .returned (tupT (mdS s at_ n)) ∧ Below w.heap.size w w' := by
  have hmf : ∀ (fn : Fn) (first cap : Array Value) (w : World), (Instr.makeFunc fn first cap).run Tryd.prog w = .ok (.func fn first cap) w := fun _ _ _ _ => rfl
  have r1 : ∀ (xs : Array Value) (W : World), Sem.run Tryd.prog (callFunc 24 xs) W = .ok (.enter 24 xs) W := enters_of Tryd.func24 (by kernel_rfl) rfl
  have HT : Hid (Calls Tryd.prog 17 #[.func (.func 24) #[] #[.pointer (some ⟨w.heap.size, 0, none⟩), .pointer (some ⟨w.heap.size + 1, 0, none⟩), .pointer (some ⟨w.heap.size + 1 + 1, 0, none⟩)]] (((w.alloc (.cells #[.string ⟨s.toArray⟩] 9)).alloc (.cells #[.int .i64 at_] 3)).alloc (.cells #[.int .i64 n] 3)) fun e w' => e = .returned (tupT (mdS s at_ n)) ∧ Below w.heap.size w w') := by
    obtain ⟨w0, e0⟩ : ∃ x, w.alloc (.cells #[.string ⟨s.toArray⟩] 9) = x := ⟨_, rfl⟩
    rw [e0]
    have z0 : w0.heap.size = w.heap.size + 1 := by rw [← e0, World.size_alloc]
    have k0 : Below w.heap.size w w0 := by rw [← e0]; exact (Below.refl _ _).alloc (Nat.le_refl _) _
    have x0 : Bx w0 w.heap.size (.string ⟨s.toArray⟩) := by
      have hn := World.alloc_heap_new w (.cells #[.string ⟨s.toArray⟩] 9)
      rw [e0] at hn
      unfold Bx; rw [Lib.cell_of_heap hn]; rfl
    obtain ⟨w1, e1⟩ : ∃ x, w0.alloc (.cells #[.int .i64 at_] 3) = x := ⟨_, rfl⟩
    rw [e1]
    have z1 : w1.heap.size = w.heap.size + 1 + 1 := by rw [← e1, World.size_alloc, z0]
    have k1 : Below w0.heap.size w0 w1 := by rw [← e1]; exact (Below.refl _ _).alloc (Nat.le_refl _) _
    have x1 : Bx w1 (w.heap.size + 1) (.int .i64 at_) := by
      have hn := World.alloc_heap_new w0 (.cells #[.int .i64 at_] 3)
      rw [e1, z0] at hn
      unfold Bx; rw [Lib.cell_of_heap hn]; rfl
    obtain ⟨w2, e2⟩ : ∃ x, w1.alloc (.cells #[.int .i64 n] 3) = x := ⟨_, rfl⟩
    rw [e2]
    have z2 : w2.heap.size = w.heap.size + 1 + 1 + 1 := by rw [← e2, World.size_alloc, z1]
    have k2 : Below w1.heap.size w1 w2 := by rw [← e2]; exact (Below.refl _ _).alloc (Nat.le_refl _) _
    have x2 : Bx w2 (w.heap.size + 1 + 1) (.int .i64 n) := by
      have hn := World.alloc_heap_new w1 (.cells #[.int .i64 n] 3)
      rw [e2, z1] at hn
      unfold Bx; rw [Lib.cell_of_heap hn]; rfl
    have hb : Below w.heap.size w w2 := ((k0.trans (k1.mono (by omega))).trans (k2.mono (by omega)))
    have y0 : Bx w2 w.heap.size (.string ⟨s.toArray⟩) := ((x0.below k1).below k2)
    have y1 : Bx w2 (w.heap.size + 1) (.int .i64 at_) := (x1.below k2)
    have y2 : Bx w2 (w.heap.size + 1 + 1) (.int .i64 n) := x2
    exact hide ((told_string _ _ (mdS s at_ n) w2 r1 (fun W hW => cMid w.heap.size (w.heap.size + 1) (w.heap.size + 1 + 1) s at_ n W (y0.below hW) (y1.below hW) (y2.below hW) ms na)).mono fun e w' ⟨h1, h2⟩ => ⟨h1, hb.trans (h2.mono hb.size)⟩)
  obtain ⟨Z, hZ⟩ : ∃ Z, mdS s at_ n = Z := ⟨_, rfl⟩
  rw [hZ] at HT ⊢
  clear hZ r1
  cases Z with
  | none =>
    simp only [tupT] at HT ⊢
    generalize (⟨s.toArray⟩ : ByteArray) = SB at *
    go_enter Tryd.func8, Tryd.ntmps8
    go_wp2_with (go_at_call 17; refine HT.out.mono ?_; rintro e w9 ⟨rfl, hb9⟩)
    go_ret2
    exact ⟨rfl, hb9⟩
  | some z =>
    simp only [tupT] at HT ⊢
    generalize (⟨s.toArray⟩ : ByteArray) = SB at *
    go_enter Tryd.func8, Tryd.ntmps8
    go_wp2_with (go_at_call 17; refine HT.out.mono ?_; rintro e w9 ⟨rfl, hb9⟩)
    go_ret2
    exact ⟨rfl, hb9⟩

set_option maxRecDepth 100000 in
set_option maxHeartbeats 2000000 in
theorem Find_any (p : By) (s : By) (f : Int) (w : World) (mp : p.length ≤ maxLen) (ms : s.length ≤ maxLen) (mf : f ≤ 9223372036854775807) :
    Calls Tryd.prog 14 #[.string ⟨p.toArray⟩, .string ⟨s.toArray⟩, .int .i64 f] w fun e w' => e = .returned (tupI (fdS p s f)) ∧ Below w.heap.size w w' := by
  have hmf : ∀ (fn : Fn) (first cap : Array Value) (w : World), (Instr.makeFunc fn first cap).run Tryd.prog w = .ok (.func fn first cap) w := fun _ _ _ _ => rfl
  have r1 : ∀ (xs : Array Value) (W : World), Sem.run Tryd.prog (callFunc 33 xs) W = .ok (.enter 33 xs) W := enters_of Tryd.func33 (by kernel_rfl) rfl
  have HT : Hid (Calls Tryd.prog 32 #[.func (.func 33) #[] #[.pointer (some ⟨w.heap.size, 0, none⟩), .pointer (some ⟨w.heap.size + 1, 0, none⟩), .pointer (some ⟨w.heap.size + 1 + 1, 0, none⟩)]] (((w.alloc (.cells #[.string ⟨p.toArray⟩] 9)).alloc (.cells #[.string ⟨s.toArray⟩] 9)).alloc (.cells #[.int .i64 f] 3)) fun e w' => e = .returned (tupI (fdS p s f)) ∧ Below w.heap.size w w') := by
    obtain ⟨w0, e0⟩ : ∃ x, w.alloc (.cells #[.string ⟨p.toArray⟩] 9) = x := ⟨_, rfl⟩
    rw [e0]
    have z0 : w0.heap.size = w.heap.size + 1 := by rw [← e0, World.size_alloc]
    have k0 : Below w.heap.size w w0 := by rw [← e0]; exact (Below.refl _ _).alloc (Nat.le_refl _) _
    have x0 : Bx w0 w.heap.size (.string ⟨p.toArray⟩) := by
      have hn := World.alloc_heap_new w (.cells #[.string ⟨p.toArray⟩] 9)
      rw [e0] at hn
      unfold Bx; rw [Lib.cell_of_heap hn]; rfl
    obtain ⟨w1, e1⟩ : ∃ x, w0.alloc (.cells #[.string ⟨s.toArray⟩] 9) = x := ⟨_, rfl⟩
    rw [e1]
    have z1 : w1.heap.size = w.heap.size + 1 + 1 := by rw [← e1, World.size_alloc, z0]
    have k1 : Below w0.heap.size w0 w1 := by rw [← e1]; exact (Below.refl _ _).alloc (Nat.le_refl _) _
    have x1 : Bx w1 (w.heap.size + 1) (.string ⟨s.toArray⟩) := by
      have hn := World.alloc_heap_new w0 (.cells #[.string ⟨s.toArray⟩] 9)
      rw [e1, z0] at hn
      unfold Bx; rw [Lib.cell_of_heap hn]; rfl
    obtain ⟨w2, e2⟩ : ∃ x, w1.alloc (.cells #[.int .i64 f] 3) = x := ⟨_, rfl⟩
    rw [e2]
    have z2 : w2.heap.size = w.heap.size + 1 + 1 + 1 := by rw [← e2, World.size_alloc, z1]
    have k2 : Below w1.heap.size w1 w2 := by rw [← e2]; exact (Below.refl _ _).alloc (Nat.le_refl _) _
    have x2 : Bx w2 (w.heap.size + 1 + 1) (.int .i64 f) := by
      have hn := World.alloc_heap_new w1 (.cells #[.int .i64 f] 3)
      rw [e2, z1] at hn
      unfold Bx; rw [Lib.cell_of_heap hn]; rfl
    have hb : Below w.heap.size w w2 := ((k0.trans (k1.mono (by omega))).trans (k2.mono (by omega)))
    have y0 : Bx w2 w.heap.size (.string ⟨p.toArray⟩) := ((x0.below k1).below k2)
    have y1 : Bx w2 (w.heap.size + 1) (.string ⟨s.toArray⟩) := (x1.below k2)
    have y2 : Bx w2 (w.heap.size + 1 + 1) (.int .i64 f) := x2
    exact hide ((told_int _ _ (fdS p s f) w2 r1 (fun W hW => cFind w.heap.size (w.heap.size + 1) (w.heap.size + 1 + 1) p s f W (y0.below hW) (y1.below hW) (y2.below hW) mp ms mf)).mono fun e w' ⟨h1, h2⟩ => ⟨h1, hb.trans (h2.mono hb.size)⟩)
  obtain ⟨Z, hZ⟩ : ∃ Z, fdS p s f = Z := ⟨_, rfl⟩
  rw [hZ] at HT ⊢
  clear hZ r1
  cases Z with
  | none =>
    simp only [tupI] at HT ⊢
    generalize (⟨p.toArray⟩ : ByteArray) = PB at *
    generalize (⟨s.toArray⟩ : ByteArray) = SB at *
    go_enter Tryd.func14, Tryd.ntmps14
    go_wp2_with (go_at_call 32; refine HT.out.mono ?_; rintro e w9 ⟨rfl, hb9⟩)
    go_ret2
    exact ⟨rfl, hb9⟩
  | some z =>
    simp only [tupI] at HT ⊢
    generalize (⟨p.toArray⟩ : ByteArray) = PB at *
    generalize (⟨s.toArray⟩ : ByteArray) = SB at *
    go_enter Tryd.func14, Tryd.ntmps14
    go_wp2_with (go_at_call 32; refine HT.out.mono ?_; rintro e w9 ⟨rfl, hb9⟩)
    go_ret2
    exact ⟨rfl, hb9⟩

set_option maxRecDepth 100000 in
set_option maxHeartbeats 2000000 in
theorem Search_any (p : By) (s : By) (f : Int) (w : World) (mp : p.length ≤ maxLen) (ms : s.length ≤ maxLen) (mf : f ≤ 9223372036854775807) :
    Calls Tryd.prog 15 #[.string ⟨p.toArray⟩, .string ⟨s.toArray⟩, .int .i64 f] w fun e w' => e = .returned (tupI (srS p s f)) ∧ Below w.heap.size w w' := by
  have hmf : ∀ (fn : Fn) (first cap : Array Value) (w : World), (Instr.makeFunc fn first cap).run Tryd.prog w = .ok (.func fn first cap) w := fun _ _ _ _ => rfl
  have r1 : ∀ (xs : Array Value) (W : World), Sem.run Tryd.prog (callFunc 37 xs) W = .ok (.enter 37 xs) W := enters_of Tryd.func37 (by kernel_rfl) rfl
  have HT : Hid (Calls Tryd.prog 32 #[.func (.func 37) #[] #[.pointer (some ⟨w.heap.size, 0, none⟩), .pointer (some ⟨w.heap.size + 1, 0, none⟩), .pointer (some ⟨w.heap.size + 1 + 1, 0, none⟩)]] (((w.alloc (.cells #[.string ⟨p.toArray⟩] 9)).alloc (.cells #[.string ⟨s.toArray⟩] 9)).alloc (.cells #[.int .i64 f] 3)) fun e w' => e = .returned (tupI (srS p s f)) ∧ Below w.heap.size w w') := by
    obtain ⟨w0, e0⟩ : ∃ x, w.alloc (.cells #[.string ⟨p.toArray⟩] 9) = x := ⟨_, rfl⟩
    rw [e0]
    have z0 : w0.heap.size = w.heap.size + 1 := by rw [← e0, World.size_alloc]
    have k0 : Below w.heap.size w w0 := by rw [← e0]; exact (Below.refl _ _).alloc (Nat.le_refl _) _
    have x0 : Bx w0 w.heap.size (.string ⟨p.toArray⟩) := by
      have hn := World.alloc_heap_new w (.cells #[.string ⟨p.toArray⟩] 9)
      rw [e0] at hn
      unfold Bx; rw [Lib.cell_of_heap hn]; rfl
    obtain ⟨w1, e1⟩ : ∃ x, w0.alloc (.cells #[.string ⟨s.toArray⟩] 9) = x := ⟨_, rfl⟩
    rw [e1]
    have z1 : w1.heap.size = w.heap.size + 1 + 1 := by rw [← e1, World.size_alloc, z0]
    have k1 : Below w0.heap.size w0 w1 := by rw [← e1]; exact (Below.refl _ _).alloc (Nat.le_refl _) _
    have x1 : Bx w1 (w.heap.size + 1) (.string ⟨s.toArray⟩) := by
      have hn := World.alloc_heap_new w0 (.cells #[.string ⟨s.toArray⟩] 9)
      rw [e1, z0] at hn
      unfold Bx; rw [Lib.cell_of_heap hn]; rfl
    obtain ⟨w2, e2⟩ : ∃ x, w1.alloc (.cells #[.int .i64 f] 3) = x := ⟨_, rfl⟩
    rw [e2]
    have z2 : w2.heap.size = w.heap.size + 1 + 1 + 1 := by rw [← e2, World.size_alloc, z1]
    have k2 : Below w1.heap.size w1 w2 := by rw [← e2]; exact (Below.refl _ _).alloc (Nat.le_refl _) _
    have x2 : Bx w2 (w.heap.size + 1 + 1) (.int .i64 f) := by
      have hn := World.alloc_heap_new w1 (.cells #[.int .i64 f] 3)
      rw [e2, z1] at hn
      unfold Bx; rw [Lib.cell_of_heap hn]; rfl
    have hb : Below w.heap.size w w2 := ((k0.trans (k1.mono (by omega))).trans (k2.mono (by omega)))
    have y0 : Bx w2 w.heap.size (.string ⟨p.toArray⟩) := ((x0.below k1).below k2)
    have y1 : Bx w2 (w.heap.size + 1) (.string ⟨s.toArray⟩) := (x1.below k2)
    have y2 : Bx w2 (w.heap.size + 1 + 1) (.int .i64 f) := x2
    exact hide ((told_int _ _ (srS p s f) w2 r1 (fun W hW => cSearch w.heap.size (w.heap.size + 1) (w.heap.size + 1 + 1) p s f W (y0.below hW) (y1.below hW) (y2.below hW) mp ms mf)).mono fun e w' ⟨h1, h2⟩ => ⟨h1, hb.trans (h2.mono hb.size)⟩)
  obtain ⟨Z, hZ⟩ : ∃ Z, srS p s f = Z := ⟨_, rfl⟩
  rw [hZ] at HT ⊢
  clear hZ r1
  cases Z with
  | none =>
    simp only [tupI] at HT ⊢
    generalize (⟨p.toArray⟩ : ByteArray) = PB at *
    generalize (⟨s.toArray⟩ : ByteArray) = SB at *
    go_enter Tryd.func15, Tryd.ntmps15
    go_wp2_with (go_at_call 32; refine HT.out.mono ?_; rintro e w9 ⟨rfl, hb9⟩)
    go_ret2
    exact ⟨rfl, hb9⟩
  | some z =>
    simp only [tupI] at HT ⊢
    generalize (⟨p.toArray⟩ : ByteArray) = PB at *
    generalize (⟨s.toArray⟩ : ByteArray) = SB at *
    go_enter Tryd.func15, Tryd.ntmps15
    go_wp2_with (go_at_call 32; refine HT.out.mono ?_; rintro e w9 ⟨rfl, hb9⟩)
    go_ret2
    exact ⟨rfl, hb9⟩

set_option maxRecDepth 100000 in
set_option maxHeartbeats 2000000 in
theorem Replace_any (s : By) (at_ : Int) (n : Int) (t : By) (w : World) (ms : s.length ≤ maxLen) (na : at_ ≤ 9223372036854775807) (mt : t.length ≤ maxLen) :
    Calls Tryd.prog 7 #[.string ⟨s.toArray⟩, .int .i64 at_, .int .i64 n, .string ⟨t.toArray⟩] w fun e w' => e = .returned (tupT (rpS s at_ n t)) ∧ Below w.heap.size w w' := by
  have hmf : ∀ (fn : Fn) (first cap : Array Value) (w : World), (Instr.makeFunc fn first cap).run Tryd.prog w = .ok (.func fn first cap) w := fun _ _ _ _ => rfl
  have r1 : ∀ (xs : Array Value) (W : World), Sem.run Tryd.prog (callFunc 18 xs) W = .ok (.enter 18 xs) W := enters_of Tryd.func18 (by kernel_rfl) rfl
  have HT : Hid (Calls Tryd.prog 17 #[.func (.func 18) #[] #[.pointer (some ⟨w.heap.size, 0, none⟩), .pointer (some ⟨w.heap.size + 1, 0, none⟩), .pointer (some ⟨w.heap.size + 1 + 1, 0, none⟩), .pointer (some ⟨w.heap.size + 1 + 1 + 1, 0, none⟩)]] ((((w.alloc (.cells #[.string ⟨s.toArray⟩] 9)).alloc (.cells #[.int .i64 at_] 3)).alloc (.cells #[.int .i64 n] 3)).alloc (.cells #[.string ⟨t.toArray⟩] 9)) fun e w' => e = .returned (tupT (rpS s at_ n t)) ∧ Below w.heap.size w w') := by
    obtain ⟨w0, e0⟩ : ∃ x, w.alloc (.cells #[.string ⟨s.toArray⟩] 9) = x := ⟨_, rfl⟩
    rw [e0]
    have z0 : w0.heap.size = w.heap.size + 1 := by rw [← e0, World.size_alloc]
    have k0 : Below w.heap.size w w0 := by rw [← e0]; exact (Below.refl _ _).alloc (Nat.le_refl _) _
    have x0 : Bx w0 w.heap.size (.string ⟨s.toArray⟩) := by
      have hn := World.alloc_heap_new w (.cells #[.string ⟨s.toArray⟩] 9)
      rw [e0] at hn
      unfold Bx; rw [Lib.cell_of_heap hn]; rfl
    obtain ⟨w1, e1⟩ : ∃ x, w0.alloc (.cells #[.int .i64 at_] 3) = x := ⟨_, rfl⟩
    rw [e1]
    have z1 : w1.heap.size = w.heap.size + 1 + 1 := by rw [← e1, World.size_alloc, z0]
    have k1 : Below w0.heap.size w0 w1 := by rw [← e1]; exact (Below.refl _ _).alloc (Nat.le_refl _) _
    have x1 : Bx w1 (w.heap.size + 1) (.int .i64 at_) := by
      have hn := World.alloc_heap_new w0 (.cells #[.int .i64 at_] 3)
      rw [e1, z0] at hn
      unfold Bx; rw [Lib.cell_of_heap hn]; rfl
    obtain ⟨w2, e2⟩ : ∃ x, w1.alloc (.cells #[.int .i64 n] 3) = x := ⟨_, rfl⟩
    rw [e2]
    have z2 : w2.heap.size = w.heap.size + 1 + 1 + 1 := by rw [← e2, World.size_alloc, z1]
    have k2 : Below w1.heap.size w1 w2 := by rw [← e2]; exact (Below.refl _ _).alloc (Nat.le_refl _) _
    have x2 : Bx w2 (w.heap.size + 1 + 1) (.int .i64 n) := by
      have hn := World.alloc_heap_new w1 (.cells #[.int .i64 n] 3)
      rw [e2, z1] at hn
      unfold Bx; rw [Lib.cell_of_heap hn]; rfl
    obtain ⟨w3, e3⟩ : ∃ x, w2.alloc (.cells #[.string ⟨t.toArray⟩] 9) = x := ⟨_, rfl⟩
    rw [e3]
    have z3 : w3.heap.size = w.heap.size + 1 + 1 + 1 + 1 := by rw [← e3, World.size_alloc, z2]
    have k3 : Below w2.heap.size w2 w3 := by rw [← e3]; exact (Below.refl _ _).alloc (Nat.le_refl _) _
    have x3 : Bx w3 (w.heap.size + 1 + 1 + 1) (.string ⟨t.toArray⟩) := by
      have hn := World.alloc_heap_new w2 (.cells #[.string ⟨t.toArray⟩] 9)
      rw [e3, z2] at hn
      unfold Bx; rw [Lib.cell_of_heap hn]; rfl
    have hb : Below w.heap.size w w3 := (((k0.trans (k1.mono (by omega))).trans (k2.mono (by omega))).trans (k3.mono (by omega)))
    have y0 : Bx w3 w.heap.size (.string ⟨s.toArray⟩) := (((x0.below k1).below k2).below k3)
    have y1 : Bx w3 (w.heap.size + 1) (.int .i64 at_) := ((x1.below k2).below k3)
    have y2 : Bx w3 (w.heap.size + 1 + 1) (.int .i64 n) := (x2.below k3)
    have y3 : Bx w3 (w.heap.size + 1 + 1 + 1) (.string ⟨t.toArray⟩) := x3
    exact hide ((told_string _ _ (rpS s at_ n t) w3 r1 (fun W hW => cReplace w.heap.size (w.heap.size + 1) (w.heap.size + 1 + 1) (w.heap.size + 1 + 1 + 1) s at_ n t W (y0.below hW) (y1.below hW) (y2.below hW) (y3.below hW) ms na mt)).mono fun e w' ⟨h1, h2⟩ => ⟨h1, hb.trans (h2.mono hb.size)⟩)
  obtain ⟨Z, hZ⟩ : ∃ Z, rpS s at_ n t = Z := ⟨_, rfl⟩
  rw [hZ] at HT ⊢
  clear hZ r1
  cases Z with
  | none =>
    simp only [tupT] at HT ⊢
    generalize (⟨s.toArray⟩ : ByteArray) = SB at *
    generalize (⟨t.toArray⟩ : ByteArray) = TB at *
    go_enter Tryd.func7, Tryd.ntmps7
    go_wp2_with (go_at_call 17; refine HT.out.mono ?_; rintro e w9 ⟨rfl, hb9⟩)
    go_ret2
    exact ⟨rfl, hb9⟩
  | some z =>
    simp only [tupT] at HT ⊢
    generalize (⟨s.toArray⟩ : ByteArray) = SB at *
    generalize (⟨t.toArray⟩ : ByteArray) = TB at *
    go_enter Tryd.func7, Tryd.ntmps7
    go_wp2_with (go_at_call 17; refine HT.out.mono ?_; rintro e w9 ⟨rfl, hb9⟩)
    go_ret2
    exact ⟨rfl, hb9⟩

set_option maxRecDepth 100000 in
set_option maxHeartbeats 2000000 in
theorem Substitute_any (s : By) (o : By) (v : By) (k : Int) (w : World) (ms : s.length ≤ maxLen) (mo : o.length ≤ maxLen) (mv : v.length ≤ maxLen) (hc : CellOk w) :
    Calls Tryd.prog 16 #[.string ⟨s.toArray⟩, .string ⟨o.toArray⟩, .string ⟨v.toArray⟩, .int .i64 k] w fun e w' => e = .returned (tupT (sbS s o v k)) ∧ Below w.heap.size w w' := by
  have hmf : ∀ (fn : Fn) (first cap : Array Value) (w : World), (Instr.makeFunc fn first cap).run Tryd.prog w = .ok (.func fn first cap) w := fun _ _ _ _ => rfl
  have r1 : ∀ (xs : Array Value) (W : World), Sem.run Tryd.prog (callFunc 41 xs) W = .ok (.enter 41 xs) W := enters_of Tryd.func41 (by kernel_rfl) rfl
  have HT : Hid (Calls Tryd.prog 17 #[.func (.func 41) #[] #[.pointer (some ⟨w.heap.size, 0, none⟩), .pointer (some ⟨w.heap.size + 1, 0, none⟩), .pointer (some ⟨w.heap.size + 1 + 1, 0, none⟩), .pointer (some ⟨w.heap.size + 1 + 1 + 1, 0, none⟩)]] ((((w.alloc (.cells #[.string ⟨s.toArray⟩] 9)).alloc (.cells #[.string ⟨o.toArray⟩] 9)).alloc (.cells #[.string ⟨v.toArray⟩] 9)).alloc (.cells #[.int .i64 k] 3)) fun e w' => e = .returned (tupT (sbS s o v k)) ∧ Below w.heap.size w w') := by
    obtain ⟨w0, e0⟩ : ∃ x, w.alloc (.cells #[.string ⟨s.toArray⟩] 9) = x := ⟨_, rfl⟩
    rw [e0]
    have z0 : w0.heap.size = w.heap.size + 1 := by rw [← e0, World.size_alloc]
    have k0 : Below w.heap.size w w0 := by rw [← e0]; exact (Below.refl _ _).alloc (Nat.le_refl _) _
    have x0 : Bx w0 w.heap.size (.string ⟨s.toArray⟩) := by
      have hn := World.alloc_heap_new w (.cells #[.string ⟨s.toArray⟩] 9)
      rw [e0] at hn
      unfold Bx; rw [Lib.cell_of_heap hn]; rfl
    obtain ⟨w1, e1⟩ : ∃ x, w0.alloc (.cells #[.string ⟨o.toArray⟩] 9) = x := ⟨_, rfl⟩
    rw [e1]
    have z1 : w1.heap.size = w.heap.size + 1 + 1 := by rw [← e1, World.size_alloc, z0]
    have k1 : Below w0.heap.size w0 w1 := by rw [← e1]; exact (Below.refl _ _).alloc (Nat.le_refl _) _
    have x1 : Bx w1 (w.heap.size + 1) (.string ⟨o.toArray⟩) := by
      have hn := World.alloc_heap_new w0 (.cells #[.string ⟨o.toArray⟩] 9)
      rw [e1, z0] at hn
      unfold Bx; rw [Lib.cell_of_heap hn]; rfl
    obtain ⟨w2, e2⟩ : ∃ x, w1.alloc (.cells #[.string ⟨v.toArray⟩] 9) = x := ⟨_, rfl⟩
    rw [e2]
    have z2 : w2.heap.size = w.heap.size + 1 + 1 + 1 := by rw [← e2, World.size_alloc, z1]
    have k2 : Below w1.heap.size w1 w2 := by rw [← e2]; exact (Below.refl _ _).alloc (Nat.le_refl _) _
    have x2 : Bx w2 (w.heap.size + 1 + 1) (.string ⟨v.toArray⟩) := by
      have hn := World.alloc_heap_new w1 (.cells #[.string ⟨v.toArray⟩] 9)
      rw [e2, z1] at hn
      unfold Bx; rw [Lib.cell_of_heap hn]; rfl
    obtain ⟨w3, e3⟩ : ∃ x, w2.alloc (.cells #[.int .i64 k] 3) = x := ⟨_, rfl⟩
    rw [e3]
    have z3 : w3.heap.size = w.heap.size + 1 + 1 + 1 + 1 := by rw [← e3, World.size_alloc, z2]
    have k3 : Below w2.heap.size w2 w3 := by rw [← e3]; exact (Below.refl _ _).alloc (Nat.le_refl _) _
    have x3 : Bx w3 (w.heap.size + 1 + 1 + 1) (.int .i64 k) := by
      have hn := World.alloc_heap_new w2 (.cells #[.int .i64 k] 3)
      rw [e3, z2] at hn
      unfold Bx; rw [Lib.cell_of_heap hn]; rfl
    have hb : Below w.heap.size w w3 := (((k0.trans (k1.mono (by omega))).trans (k2.mono (by omega))).trans (k3.mono (by omega)))
    have y0 : Bx w3 w.heap.size (.string ⟨s.toArray⟩) := (((x0.below k1).below k2).below k3)
    have y1 : Bx w3 (w.heap.size + 1) (.string ⟨o.toArray⟩) := ((x1.below k2).below k3)
    have y2 : Bx w3 (w.heap.size + 1 + 1) (.string ⟨v.toArray⟩) := (x2.below k3)
    have y3 : Bx w3 (w.heap.size + 1 + 1 + 1) (.int .i64 k) := x3
    exact hide ((told_string _ _ (sbS s o v k) w3 r1 (fun W hW => cSubst w.heap.size (w.heap.size + 1) (w.heap.size + 1 + 1) (w.heap.size + 1 + 1 + 1) s o v k W (y0.below hW) (y1.below hW) (y2.below hW) (y3.below hW) ms mo mv (cellOk_below hc (hb.trans (hW.mono hb.size))))).mono fun e w' ⟨h1, h2⟩ => ⟨h1, hb.trans (h2.mono hb.size)⟩)
  obtain ⟨Z, hZ⟩ : ∃ Z, sbS s o v k = Z := ⟨_, rfl⟩
  rw [hZ] at HT ⊢
  clear hZ r1
  cases Z with
  | none =>
    simp only [tupT] at HT ⊢
    generalize (⟨s.toArray⟩ : ByteArray) = SB at *
    generalize (⟨o.toArray⟩ : ByteArray) = OB at *
    generalize (⟨v.toArray⟩ : ByteArray) = VB at *
    go_enter Tryd.func16, Tryd.ntmps16
    go_wp2_with (go_at_call 17; refine HT.out.mono ?_; rintro e w9 ⟨rfl, hb9⟩)
    go_ret2
    exact ⟨rfl, hb9⟩
  | some z =>
    simp only [tupT] at HT ⊢
    generalize (⟨s.toArray⟩ : ByteArray) = SB at *
    generalize (⟨o.toArray⟩ : ByteArray) = OB at *
    generalize (⟨v.toArray⟩ : ByteArray) = VB at *
    go_enter Tryd.func16, Tryd.ntmps16
    go_wp2_with (go_at_call 17; refine HT.out.mono ?_; rintro e w9 ⟨rfl, hb9⟩)
    go_ret2
    exact ⟨rfl, hb9⟩

set_option maxRecDepth 100000 in
set_option maxHeartbeats 2000000 in
theorem Trim_any (s : By) (w : World) (ms : s.length ≤ maxLen) (hc : CellOk w) :
    Calls Tryd.prog 10 #[.string ⟨s.toArray⟩] w fun e w' => e = .returned (tupT (trS s)) ∧ Below w.heap.size w w' := by
  have hmf : ∀ (fn : Fn) (first cap : Array Value) (w : World), (Instr.makeFunc fn first cap).run Tryd.prog w = .ok (.func fn first cap) w := fun _ _ _ _ => rfl
  have r1 : ∀ (xs : Array Value) (W : World), Sem.run Tryd.prog (callFunc 26 xs) W = .ok (.enter 26 xs) W := enters_of Tryd.func26 (by kernel_rfl) rfl
  have HT : Hid (Calls Tryd.prog 17 #[.func (.func 26) #[] #[.pointer (some ⟨w.heap.size, 0, none⟩)]] (w.alloc (.cells #[.string ⟨s.toArray⟩] 9)) fun e w' => e = .returned (tupT (trS s)) ∧ Below w.heap.size w w') := by
    obtain ⟨w0, e0⟩ : ∃ x, w.alloc (.cells #[.string ⟨s.toArray⟩] 9) = x := ⟨_, rfl⟩
    rw [e0]
    have z0 : w0.heap.size = w.heap.size + 1 := by rw [← e0, World.size_alloc]
    have k0 : Below w.heap.size w w0 := by rw [← e0]; exact (Below.refl _ _).alloc (Nat.le_refl _) _
    have x0 : Bx w0 w.heap.size (.string ⟨s.toArray⟩) := by
      have hn := World.alloc_heap_new w (.cells #[.string ⟨s.toArray⟩] 9)
      rw [e0] at hn
      unfold Bx; rw [Lib.cell_of_heap hn]; rfl
    have hb : Below w.heap.size w w0 := k0
    have y0 : Bx w0 w.heap.size (.string ⟨s.toArray⟩) := x0
    exact hide ((told_string _ _ (trS s) w0 r1 (fun W hW => cTrim w.heap.size s W (y0.below hW) ms (cellOk_below hc (hb.trans (hW.mono hb.size))))).mono fun e w' ⟨h1, h2⟩ => ⟨h1, hb.trans (h2.mono hb.size)⟩)
  obtain ⟨Z, hZ⟩ : ∃ Z, trS s = Z := ⟨_, rfl⟩
  rw [hZ] at HT ⊢
  clear hZ r1
  cases Z with
  | none =>
    simp only [tupT] at HT ⊢
    generalize (⟨s.toArray⟩ : ByteArray) = SB at *
    go_enter Tryd.func10, Tryd.ntmps10
    go_wp2_with (go_at_call 17; refine HT.out.mono ?_; rintro e w9 ⟨rfl, hb9⟩)
    go_ret2
    exact ⟨rfl, hb9⟩
  | some z =>
    simp only [tupT] at HT ⊢
    generalize (⟨s.toArray⟩ : ByteArray) = SB at *
    go_enter Tryd.func10, Tryd.ntmps10
    go_wp2_with (go_at_call 17; refine HT.out.mono ?_; rintro e w9 ⟨rfl, hb9⟩)
    go_ret2
    exact ⟨rfl, hb9⟩

set_option maxRecDepth 100000 in
set_option maxHeartbeats 2000000 in
theorem Repeat_any (s : By) (n : Int) (w : World) (ms : s.length ≤ maxLen) (nn : n ≤ 9223372036854775807) :
    Calls Tryd.prog 13 #[.string ⟨s.toArray⟩, .int .i64 n] w fun e w' => e = .returned (tupT (rtS s n)) ∧ Below w.heap.size w w' := by
  have hmf : ∀ (fn : Fn) (first cap : Array Value) (w : World), (Instr.makeFunc fn first cap).run Tryd.prog w = .ok (.func fn first cap) w := fun _ _ _ _ => rfl
  have r1 : ∀ (xs : Array Value) (W : World), Sem.run Tryd.prog (callFunc 30 xs) W = .ok (.enter 30 xs) W := enters_of Tryd.func30 (by kernel_rfl) rfl
  have HT : Hid (Calls Tryd.prog 17 #[.func (.func 30) #[] #[.pointer (some ⟨w.heap.size, 0, none⟩), .pointer (some ⟨w.heap.size + 1, 0, none⟩)]] ((w.alloc (.cells #[.string ⟨s.toArray⟩] 9)).alloc (.cells #[.int .i64 n] 3)) fun e w' => e = .returned (tupT (rtS s n)) ∧ Below w.heap.size w w') := by
    obtain ⟨w0, e0⟩ : ∃ x, w.alloc (.cells #[.string ⟨s.toArray⟩] 9) = x := ⟨_, rfl⟩
    rw [e0]
    have z0 : w0.heap.size = w.heap.size + 1 := by rw [← e0, World.size_alloc]
    have k0 : Below w.heap.size w w0 := by rw [← e0]; exact (Below.refl _ _).alloc (Nat.le_refl _) _
    have x0 : Bx w0 w.heap.size (.string ⟨s.toArray⟩) := by
      have hn := World.alloc_heap_new w (.cells #[.string ⟨s.toArray⟩] 9)
      rw [e0] at hn
      unfold Bx; rw [Lib.cell_of_heap hn]; rfl
    obtain ⟨w1, e1⟩ : ∃ x, w0.alloc (.cells #[.int .i64 n] 3) = x := ⟨_, rfl⟩
    rw [e1]
    have z1 : w1.heap.size = w.heap.size + 1 + 1 := by rw [← e1, World.size_alloc, z0]
    have k1 : Below w0.heap.size w0 w1 := by rw [← e1]; exact (Below.refl _ _).alloc (Nat.le_refl _) _
    have x1 : Bx w1 (w.heap.size + 1) (.int .i64 n) := by
      have hn := World.alloc_heap_new w0 (.cells #[.int .i64 n] 3)
      rw [e1, z0] at hn
      unfold Bx; rw [Lib.cell_of_heap hn]; rfl
    have hb : Below w.heap.size w w1 := (k0.trans (k1.mono (by omega)))
    have y0 : Bx w1 w.heap.size (.string ⟨s.toArray⟩) := (x0.below k1)
    have y1 : Bx w1 (w.heap.size + 1) (.int .i64 n) := x1
    exact hide ((told_string _ _ (rtS s n) w1 r1 (fun W hW => cRepeat w.heap.size (w.heap.size + 1) s n W (y0.below hW) (y1.below hW) ms nn)).mono fun e w' ⟨h1, h2⟩ => ⟨h1, hb.trans (h2.mono hb.size)⟩)
  obtain ⟨Z, hZ⟩ : ∃ Z, rtS s n = Z := ⟨_, rfl⟩
  rw [hZ] at HT ⊢
  clear hZ r1
  cases Z with
  | none =>
    simp only [tupT] at HT ⊢
    generalize (⟨s.toArray⟩ : ByteArray) = SB at *
    go_enter Tryd.func13, Tryd.ntmps13
    go_wp2_with (go_at_call 17; refine HT.out.mono ?_; rintro e w9 ⟨rfl, hb9⟩)
    go_ret2
    exact ⟨rfl, hb9⟩
  | some z =>
    simp only [tupT] at HT ⊢
    generalize (⟨s.toArray⟩ : ByteArray) = SB at *
    go_enter Tryd.func13, Tryd.ntmps13
    go_wp2_with (go_at_call 17; refine HT.out.mono ?_; rintro e w9 ⟨rfl, hb9⟩)
    go_ret2
    exact ⟨rfl, hb9⟩

set_option maxRecDepth 100000 in
set_option maxHeartbeats 2000000 in
theorem Lower_any (s : By) (w : World) (ms : s.length ≤ maxLen) :
    Calls Tryd.prog 11 #[.string ⟨s.toArray⟩] w fun e w' => e = .returned (tupT (loS s)) ∧ Below w.heap.size w w' := by
  have hmf : ∀ (fn : Fn) (first cap : Array Value) (w : World), (Instr.makeFunc fn first cap).run Tryd.prog w = .ok (.func fn first cap) w := fun _ _ _ _ => rfl
  have r1 : ∀ (xs : Array Value) (W : World), Sem.run Tryd.prog (callFunc 28 xs) W = .ok (.enter 28 xs) W := enters_of Tryd.func28 (by kernel_rfl) rfl
  have HT : Hid (Calls Tryd.prog 17 #[.func (.func 28) #[] #[.pointer (some ⟨w.heap.size, 0, none⟩)]] (w.alloc (.cells #[.string ⟨s.toArray⟩] 9)) fun e w' => e = .returned (tupT (loS s)) ∧ Below w.heap.size w w') := by
    obtain ⟨w0, e0⟩ : ∃ x, w.alloc (.cells #[.string ⟨s.toArray⟩] 9) = x := ⟨_, rfl⟩
    rw [e0]
    have z0 : w0.heap.size = w.heap.size + 1 := by rw [← e0, World.size_alloc]
    have k0 : Below w.heap.size w w0 := by rw [← e0]; exact (Below.refl _ _).alloc (Nat.le_refl _) _
    have x0 : Bx w0 w.heap.size (.string ⟨s.toArray⟩) := by
      have hn := World.alloc_heap_new w (.cells #[.string ⟨s.toArray⟩] 9)
      rw [e0] at hn
      unfold Bx; rw [Lib.cell_of_heap hn]; rfl
    have hb : Below w.heap.size w w0 := k0
    have y0 : Bx w0 w.heap.size (.string ⟨s.toArray⟩) := x0
    exact hide ((told_string _ _ (loS s) w0 r1 (fun W hW => cLower w.heap.size s W (y0.below hW) ms)).mono fun e w' ⟨h1, h2⟩ => ⟨h1, hb.trans (h2.mono hb.size)⟩)
  obtain ⟨Z, hZ⟩ : ∃ Z, loS s = Z := ⟨_, rfl⟩
  rw [hZ] at HT ⊢
  clear hZ r1
  cases Z with
  | none =>
    simp only [tupT] at HT ⊢
    generalize (⟨s.toArray⟩ : ByteArray) = SB at *
    go_enter Tryd.func11, Tryd.ntmps11
    go_wp2_with (go_at_call 17; refine HT.out.mono ?_; rintro e w9 ⟨rfl, hb9⟩)
    go_ret2
    exact ⟨rfl, hb9⟩
  | some z =>
    simp only [tupT] at HT ⊢
    generalize (⟨s.toArray⟩ : ByteArray) = SB at *
    go_enter Tryd.func11, Tryd.ntmps11
    go_wp2_with (go_at_call 17; refine HT.out.mono ?_; rintro e w9 ⟨rfl, hb9⟩)
    go_ret2
    exact ⟨rfl, hb9⟩

theorem SlIs.below {W W' : World} {v : Value} {l : List By} (h : SlIs W v l) (k : Below W.heap.size W W') : SlIs W' v l := by
  rcases h with h | ⟨g, o, cap, h1, h2, h3⟩
  · exact .inl h
  · exact .inr ⟨g, o, cap, h1, Nat.lt_of_lt_of_le h2 k.size, fun i x hx => (k.cell (p := ⟨g, o + i, none⟩) h2).trans (h3 i x hx)⟩

end Go.Proofs.YthooimaadgabiabDoor
