/-
  The contracts of the reader's cells and call.
  The contracts of the reader's call and single.
-/
import Derived.Test.YtiaoaifoecmemaaGreatDoorRQ6
set_option maxRecDepth 100000
set_option maxHeartbeats 4000000
namespace Go.Proofs.YtiaoaifoecmemaaGreatDoor
open Go.RowKit
theorem kind_ne {x : Int} {n : Int} (h : x = n) (hn : n ≠ 0) : x ≠ 0 := by omega
theorem cells_no (R : Nat) (l l1 : List Tok) (hl1 : l.tail = l1) (w : World) (h : Rdr w R l) (he : Ended l) (hk : (hd l).kind = 2) (hc : atB l1 [58] = false) :
    Calls Tryz.prog 100 #[.pointer (some ⟨R, 0, none⟩)] w (Told R w (.ok (cellH (hd l)) .nil l1)) := by
  have e1 : Ended l1 := hl1 ▸ ended_tail he (.inl (kind_ne hk (by decide)))
  have n1 := ended_ne e1
  have HR := hide h
  have HT : Hid (∀ W : World, Rdr W R l → Calls Tryz.prog 68 #[.pointer (some ⟨R, 0, none⟩)] W fun e w' => e = .returned (.agg #[.int .i64 (hd l).kind, .int .i64 (hd l).vk, .int .i64 (hd l).vn, .string ⟨(hd l).vs.toArray⟩, .bool (hd l).vb, .int .i64 (hd l).vc, .int .i64 (hd l).row, .int .i64 (hd l).col, .bool (hd l).fr, .bool (hd l).fc, .string ⟨(hd l).txt.toArray⟩, .int .i64 (hd l).pos]) ∧ Rdr w' R l1 ∧ Bar R W w') := fun W hW => by
    have := take_any R l W hW (by rw [hl1]; exact n1)
    rw [hl1] at this
    exact this
  have HA : Hid (∀ W : World, Rdr W R (l1) → Calls Tryz.prog 102 #[.pointer (some ⟨R, 0, none⟩), .string ⟨#[58]⟩] W fun e w' => e = .returned (.bool false) ∧ w' = W) := fun W hW => by
    have := at_any R _ ⟨#[58]⟩ W hW
    rw [show atB (l1) (⟨#[58]⟩ : ByteArray).data.toList = false from hc] at this
    exact this
  have hRs := h.1
  clear h hc he hk hl1 n1
  have hf2 := tok_field2
  generalize hd l = T at *
  go_enter Tryz.func100, Tryz.ntmps100
  go_wp2_with (first | (with_reducible refine wpl_id ?_; refine wpl_buildN rfl _ _ rfl (qs := #[(0, .int .i64 2), (2, .agg #[.int .i64 T.row, .int .i64 T.col, .bool T.fr, .bool T.fc])]) rfl (run_cell T _) ?_) | (go_at_call 68; refine (HT.out _ ?_).mono ?_; (focus ((repeat' (first | with_reducible (first | exact Hid.out (by assumption) | refine Rdr.set ?_ ?_ _ _ | refine Rdr.row ?_ ?_ _ | refine Rdr.alloc ?_ _ | refine Rdr.drew ?_ | refine Rdr.drewN ?_ _) | omega)); done)); rintro e w1 ⟨rfl, hr1, hb1⟩; have HR1 := hide hr1; have HB1 := hide hb1; have HX1 := hide (Box.bar (Box.new w (hdC zh (.slice none 0 0))) hb1 (by omega)); obtain ⟨ra1, rb1, _⟩ := HX1.out.rules rfl; have z1 : w.heap.size < w1.heap.size := (by have := hb1.size; simp at this; omega); clear hr1 hb1) | (go_at_call 102; refine (HA.out _ ?_).mono ?_; (focus ((repeat' (first | with_reducible (first | exact Hid.out (by assumption) | refine Rdr.set ?_ ?_ _ _ | refine Rdr.row ?_ ?_ _ | refine Rdr.alloc ?_ _ | refine Rdr.drew ?_ | refine Rdr.drewN ?_ _) | omega)); done)); rintro e wz ⟨rfl, hz⟩; subst wz))
  refine bodyPost_ret (Box.ret rfl (by ((repeat' (first | with_reducible (first | exact Hid.out (by assumption) | apply Box.set | exact Box.new _ _ | apply Box.other | apply Box.alloc | apply Box.drew | apply Box.drewN) | omega)); done)) rfl) rfl ?_
  refine ⟨_, _, _, rfl, kv_nil _ _ _ _, ?_, ?_, e1⟩
  · (repeat' (first | with_reducible (first | exact Hid.out (by assumption) | refine Rdr.set ?_ ?_ _ _ | refine Rdr.row ?_ ?_ _ | refine Rdr.alloc ?_ _ | refine Rdr.drew ?_ | refine Rdr.drewN ?_ _) | omega))
  · (repeat' (first | with_reducible (first | exact Bar.refl _ _ | refine Bar.setNew ?_ ?_ _ | refine Bar.row ?_ ?_ _ | refine Bar.alloc ?_ _ | refine Bar.drew ?_ | refine Bar.drewN ?_ _ | refine Bar.trans ?_ (Hid.out (by assumption))) | (simp; done) | (simp; omega) | omega))
theorem cells_yes (R : Nat) (l l1 : List Tok) (hl1 : l.tail = l1) (w : World) (h : Rdr w R l) (he : Ended l) (hk : (hd l).kind = 2) (l2 l3 : List Tok) (hl2 : l1.tail = l2) (hl3 : l2.tail = l3) (hc : atB l1 [58] = true) (hk2 : (hd l2).kind = 2) :
    Calls Tryz.prog 100 #[.pointer (some ⟨R, 0, none⟩)] w (Told R w (.ok (rangeH (hd l) (hd l2)) .nil l3)) := by
  have e1 : Ended l1 := hl1 ▸ ended_tail he (.inl (kind_ne hk (by decide)))
  have e2 : Ended l2 := hl2 ▸ ended_at e1 hc
  have e3 : Ended l3 := hl3 ▸ ended_tail e2 (.inl (kind_ne hk2 (by decide)))
  have n1 := ended_ne e1
  have n2 := ended_ne e2
  have n3 := ended_ne e3
  have HR := hide h
  have HT : Hid (∀ W : World, Rdr W R l → Calls Tryz.prog 68 #[.pointer (some ⟨R, 0, none⟩)] W fun e w' => e = .returned (.agg #[.int .i64 (hd l).kind, .int .i64 (hd l).vk, .int .i64 (hd l).vn, .string ⟨(hd l).vs.toArray⟩, .bool (hd l).vb, .int .i64 (hd l).vc, .int .i64 (hd l).row, .int .i64 (hd l).col, .bool (hd l).fr, .bool (hd l).fc, .string ⟨(hd l).txt.toArray⟩, .int .i64 (hd l).pos]) ∧ Rdr w' R l1 ∧ Bar R W w') := fun W hW => by
    have := take_any R l W hW (by rw [hl1]; exact n1)
    rw [hl1] at this
    exact this
  have HA : Hid (∀ W : World, Rdr W R (l1) → Calls Tryz.prog 102 #[.pointer (some ⟨R, 0, none⟩), .string ⟨#[58]⟩] W fun e w' => e = .returned (.bool true) ∧ w' = W) := fun W hW => by
    have := at_any R _ ⟨#[58]⟩ W hW
    rw [show atB (l1) (⟨#[58]⟩ : ByteArray).data.toList = true from hc] at this
    exact this
  have HT2 : Hid (∀ W : World, Rdr W R l1 → Calls Tryz.prog 68 #[.pointer (some ⟨R, 0, none⟩)] W fun e w' => e = .returned (.agg #[.int .i64 (hd l1).kind, .int .i64 (hd l1).vk, .int .i64 (hd l1).vn, .string ⟨(hd l1).vs.toArray⟩, .bool (hd l1).vb, .int .i64 (hd l1).vc, .int .i64 (hd l1).row, .int .i64 (hd l1).col, .bool (hd l1).fr, .bool (hd l1).fc, .string ⟨(hd l1).txt.toArray⟩, .int .i64 (hd l1).pos]) ∧ Rdr w' R l2 ∧ Bar R W w') := fun W hW => by
    have := take_any R l1 W hW (by rw [hl2]; exact n2)
    rw [hl2] at this
    exact this
  have HT3 : Hid (∀ W : World, Rdr W R l2 → Calls Tryz.prog 68 #[.pointer (some ⟨R, 0, none⟩)] W fun e w' => e = .returned (.agg #[.int .i64 (hd l2).kind, .int .i64 (hd l2).vk, .int .i64 (hd l2).vn, .string ⟨(hd l2).vs.toArray⟩, .bool (hd l2).vb, .int .i64 (hd l2).vc, .int .i64 (hd l2).row, .int .i64 (hd l2).col, .bool (hd l2).fr, .bool (hd l2).fc, .string ⟨(hd l2).txt.toArray⟩, .int .i64 (hd l2).pos]) ∧ Rdr w' R l3 ∧ Bar R W w') := fun W hW => by
    have := take_any R l2 W hW (by rw [hl3]; exact n3)
    rw [hl3] at this
    exact this
  have HKi : Hid (∀ W : World, Rdr W R (l2) → ∃ g o n cap, W.cell? ⟨R, 0, none⟩ = some (.slice (some ⟨g, o, none⟩) n cap) ∧ 0 < n ∧ W.cell? ⟨g, o, none⟩ = some (.int .i64 (hd (l2)).kind)) := fun W hW => by
    obtain ⟨hR, hf, hne, g, o, cap, hc, hc1, hc2, hg, ht⟩ := hW
    exact ⟨g, o, _, cap, hc, List.length_pos_iff.2 hne, ht 0 _ (hd_at hne) 0 (by omega)⟩
  have hRs := h.1
  clear h hc hk he hl1 hl2 hl3 n1 n2 n3 e1 e2
  have hf2 := tok_field2
  generalize hd l = T at *
  generalize hd l1 = V at *
  generalize hd l2 = U at *
  go_enter Tryz.func100, Tryz.ntmps100
  go_wp2_with (first | (go_at_call 68; refine (HT.out _ ?_).mono ?_; (focus ((repeat' (first | with_reducible (first | exact Hid.out (by assumption) | refine Rdr.set ?_ ?_ _ _ | refine Rdr.row ?_ ?_ _ | refine Rdr.alloc ?_ _ | refine Rdr.drew ?_ | refine Rdr.drewN ?_ _) | omega)); done)); rintro e w1 ⟨rfl, hr1, hb1⟩; have HR1 := hide hr1; have HB1 := hide hb1; have HX1 := hide (Box.bar (Box.new w (hdC zh (.slice none 0 0))) hb1 (by omega)); have z1 : w.heap.size < w1.heap.size := (by have := hb1.size; simp at this; omega); clear hr1 hb1) | (go_at_call 102; refine (HA.out _ ?_).mono ?_; (focus ((repeat' (first | with_reducible (first | exact Hid.out (by assumption) | refine Rdr.set ?_ ?_ _ _ | refine Rdr.row ?_ ?_ _ | refine Rdr.alloc ?_ _ | refine Rdr.drew ?_ | refine Rdr.drewN ?_ _) | omega)); done)); rintro e wz ⟨rfl, hz⟩; subst wz) | (go_at_call 68; refine (HT2.out _ ?_).mono ?_; (focus ((repeat' (first | with_reducible (first | exact Hid.out (by assumption) | refine Rdr.set ?_ ?_ _ _ | refine Rdr.row ?_ ?_ _ | refine Rdr.alloc ?_ _ | refine Rdr.drew ?_ | refine Rdr.drewN ?_ _) | omega)); done)); rintro e w2 ⟨rfl, hr2, hb2⟩; have HR2 := hide hr2; have HB2 := hide hb2; have c2_0 := fun o => hb2.cell (b := w1.heap.size) (o := o) (by first | (simp; done) | (simp; omega)) (by omega); have f2_0 := fun o => hb2.frozen (b := w1.heap.size) (o := o) (by first | (simp; done) | (simp; omega)) (by omega); have z2_0 : w1.heap.size < w2.heap.size := (by have := hb2.size; simp at this; omega); obtain ⟨g2, o2, m2, cap2, kc2, kl2, kk2⟩ := HKi.out _ hr2; rw [hk2] at kk2; have HX2 := hide ((HX1.out.alloc _).bar hb2 (by omega)); clear hr2 hb2))
  refine wp_region_held_drew (S := fun _ => True) (by kernel_rfl) trivial (fun hHeld => ?_)
  (refine takeE (i := 1) (some 25) rfl rfl (by kernel_rfl) (v := ?_) rfl ?_ (by assumption) ?_; rotate_left; (focus (intro w hSw; (try dsimp only at hSw); first | (go_simp; done) | (go_simp; with_reducible rfl))); try simp only [Act.put, pA, pB, pC])
  refine wpAnyH_ready (rs := [0, 2]) (by kernel_rfl) (by simp) ?_
  refine readyP (o := _) rfl rfl (fun K hK => ?_) (readyP (o := _) rfl rfl (fun K hK => ?_) AllReadyH.nil)
  · refine wp_run (v := .agg #[.int .i64 T.row, .int .i64 T.col, .bool T.fr, .bool T.fc]) (w' := w2.drew) (by go_simp) ?_
    refine hK.out _ _ trivial (fun hHeld => ?_)
    clear hK K
    refine wpAnyH_ready (rs := [2]) (by kernel_rfl) (by simp) ?_
    refine readyP (o := _) rfl rfl (fun K hK => ?_) AllReadyH.nil
    go_simp
    (go_at_call 68; refine (HT3.out _ ?_).mono ?_; (focus ((repeat' (first | with_reducible (first | exact Hid.out (by assumption) | refine Rdr.set ?_ ?_ _ _ | refine Rdr.row ?_ ?_ _ | refine Rdr.alloc ?_ _ | refine Rdr.drew ?_ | refine Rdr.drewN ?_ _) | omega)); done)); rintro e w3 ⟨rfl, hr3, hb3⟩; have HR3 := hide hr3; have HB3 := hide hb3; have c3_0 := fun o => hb3.cell (b := w1.heap.size) (o := o) (by first | (simp; done) | (simp; omega)) (by omega); have f3_0 := fun o => hb3.frozen (b := w1.heap.size) (o := o) (by first | (simp; done) | (simp; omega)) (by omega); have z3_0 : w1.heap.size < w3.heap.size := (by have := hb3.size; simp at this; omega); have HX3 := hide (HX2.out.drew.bar hb3 (by omega)); clear hr3 hb3)
    refine hK.out _ _ trivial (fun hHeld => ?_)
    clear hK K
    refine wpAnyH_ready (rs := [3]) (by kernel_rfl) (by simp) ?_
    refine readyP (o := _) rfl rfl (fun K hK => ?_) AllReadyH.nil
    refine wp_run (v := .agg #[.int .i64 U.row, .int .i64 U.col, .bool U.fr, .bool U.fc]) (w' := w3) (by go_simp) ?_
    refine hK.out _ _ trivial (fun hHeld => ?_)
    clear hK K
    refine wpAnyH_ready (rs := [4]) (by kernel_rfl) (by simp) ?_
    refine readyP (o := _) rfl rfl (fun K hK => ?_) AllReadyH.nil
    refine wp_buildN _ _ rfl (qs := #[(0, .int .i64 3), (2, .agg #[.int .i64 T.row, .int .i64 T.col, .bool T.fr, .bool T.fc]), (3, .agg #[.int .i64 U.row, .int .i64 U.col, .bool U.fr, .bool U.fc])]) rfl (run_range T U _) ?_
    refine hK.out _ _ trivial (fun hHeld => ?_)
    clear hK K
    refine wpAnyH_ready (rs := [5]) (by kernel_rfl) (by simp) ?_
    refine readyP (o := _) rfl rfl (fun K hK => ?_) AllReadyH.nil
    refine wp_storeN _ _ rfl _ rfl rfl HX3.out rfl ?_
    refine hK.out _ _ trivial (fun hHeld => ?_)
    clear hK K
    refine wpAnyH_done (by kernel_rfl) ?_ _
    go_wp2
    refine bodyPost_ret (Box.ret rfl (HX3.out.set _) rfl) rfl ?_
    refine ⟨_, _, _, rfl, kv_nil _ _ _ _, ?_, ?_, e3⟩
    · (repeat' (first | with_reducible (first | exact Hid.out (by assumption) | refine Rdr.set ?_ ?_ _ _ | refine Rdr.row ?_ ?_ _ | refine Rdr.alloc ?_ _ | refine Rdr.drew ?_ | refine Rdr.drewN ?_ _) | omega))
    · (repeat' (first | with_reducible (first | exact Bar.refl _ _ | refine Bar.setNew ?_ ?_ _ | refine Bar.row ?_ ?_ _ | refine Bar.alloc ?_ _ | refine Bar.drew ?_ | refine Bar.drewN ?_ _ | refine Bar.trans ?_ (Hid.out (by assumption))) | (simp; done) | (simp; omega) | omega))
  · go_simp
    (go_at_call 68; refine (HT3.out _ ?_).mono ?_; (focus ((repeat' (first | with_reducible (first | exact Hid.out (by assumption) | refine Rdr.set ?_ ?_ _ _ | refine Rdr.row ?_ ?_ _ | refine Rdr.alloc ?_ _ | refine Rdr.drew ?_ | refine Rdr.drewN ?_ _) | omega)); done)); rintro e w3 ⟨rfl, hr3, hb3⟩; have HR3 := hide hr3; have HB3 := hide hb3; have c3_0 := fun o => hb3.cell (b := w1.heap.size) (o := o) (by first | (simp; done) | (simp; omega)) (by omega); have f3_0 := fun o => hb3.frozen (b := w1.heap.size) (o := o) (by first | (simp; done) | (simp; omega)) (by omega); have z3_0 : w1.heap.size < w3.heap.size := (by have := hb3.size; simp at this; omega); have HX3 := hide (HX2.out.drew.bar hb3 (by omega)); clear hr3 hb3)
    refine hK.out _ _ trivial (fun hHeld => ?_)
    clear hK K
    (refine takeE (i := 3) (some 27) rfl rfl (by kernel_rfl) (v := ?_) rfl ?_ (by assumption) ?_; rotate_left; (focus (intro w hSw; (try dsimp only at hSw); first | (go_simp; done) | (go_simp; with_reducible rfl))); try simp only [Act.put, pA, pB, pC])
    refine wpAnyH_ready (rs := [0]) (by kernel_rfl) (by simp) ?_
    refine readyP (o := _) rfl rfl (fun K hK => ?_) AllReadyH.nil
    refine wp_run (v := .agg #[.int .i64 T.row, .int .i64 T.col, .bool T.fr, .bool T.fc]) (w' := w3) (by go_simp) ?_
    refine hK.out _ _ trivial (fun hHeld => ?_)
    clear hK K
    refine wpAnyH_ready (rs := [4]) (by kernel_rfl) (by simp) ?_
    refine readyP (o := _) rfl rfl (fun K hK => ?_) AllReadyH.nil
    refine wp_buildN _ _ rfl (qs := #[(0, .int .i64 3), (2, .agg #[.int .i64 T.row, .int .i64 T.col, .bool T.fr, .bool T.fc]), (3, .agg #[.int .i64 U.row, .int .i64 U.col, .bool U.fr, .bool U.fc])]) rfl (run_range T U _) ?_
    refine hK.out _ _ trivial (fun hHeld => ?_)
    clear hK K
    refine wpAnyH_ready (rs := [5]) (by kernel_rfl) (by simp) ?_
    refine readyP (o := _) rfl rfl (fun K hK => ?_) AllReadyH.nil
    refine wp_storeN _ _ rfl _ rfl rfl HX3.out rfl ?_
    refine hK.out _ _ trivial (fun hHeld => ?_)
    clear hK K
    refine wpAnyH_done (by kernel_rfl) ?_ _
    go_wp2
    refine bodyPost_ret (Box.ret rfl (HX3.out.set _) rfl) rfl ?_
    refine ⟨_, _, _, rfl, kv_nil _ _ _ _, ?_, ?_, e3⟩
    · (repeat' (first | with_reducible (first | exact Hid.out (by assumption) | refine Rdr.set ?_ ?_ _ _ | refine Rdr.row ?_ ?_ _ | refine Rdr.alloc ?_ _ | refine Rdr.drew ?_ | refine Rdr.drewN ?_ _) | omega))
    · (repeat' (first | with_reducible (first | exact Bar.refl _ _ | refine Bar.setNew ?_ ?_ _ | refine Bar.row ?_ ?_ _ | refine Bar.alloc ?_ _ | refine Bar.drew ?_ | refine Bar.drewN ?_ _ | refine Bar.trans ?_ (Hid.out (by assumption))) | (simp; done) | (simp; omega) | omega))
theorem cells_bad (R : Nat) (l l1 : List Tok) (hl1 : l.tail = l1) (w : World) (h : Rdr w R l) (he : Ended l) (hk : (hd l).kind = 2) (l2 : List Tok) (hl2 : l1.tail = l2) (hc : atB l1 [58] = true) (hk2 : (hd l2).kind ≠ 2) :
  Calls Tryz.prog 100 #[.pointer (some ⟨R, 0, none⟩)] w (Told R w (.bad l2)) := by
 have e1 : Ended l1 := hl1 ▸ ended_tail he (.inl (kind_ne hk (by decide)))
 have e2 : Ended l2 := hl2 ▸ ended_at e1 hc
 have n1 := ended_ne e1
 have n2 := ended_ne e2
 have HR := hide h
 have HT : Hid (∀ W : World, Rdr W R l → Calls Tryz.prog 68 #[.pointer (some ⟨R, 0, none⟩)] W fun e w' => e = .returned (.agg #[.int .i64 (hd l).kind, .int .i64 (hd l).vk, .int .i64 (hd l).vn, .string ⟨(hd l).vs.toArray⟩, .bool (hd l).vb, .int .i64 (hd l).vc, .int .i64 (hd l).row, .int .i64 (hd l).col, .bool (hd l).fr, .bool (hd l).fc, .string ⟨(hd l).txt.toArray⟩, .int .i64 (hd l).pos]) ∧ Rdr w' R l1 ∧ Bar R W w') := fun W hW => by
  have := take_any R l W hW (by rw [hl1]; exact n1)
  rw [hl1] at this
  exact this
 have HA : Hid (∀ W : World, Rdr W R (l1) → Calls Tryz.prog 102 #[.pointer (some ⟨R, 0, none⟩), .string ⟨#[58]⟩] W fun e w' => e = .returned (.bool true) ∧ w' = W) := fun W hW => by
  have := at_any R _ ⟨#[58]⟩ W hW
  rw [show atB (l1) (⟨#[58]⟩ : ByteArray).data.toList = true from hc] at this
  exact this
 have HT2 : Hid (∀ W : World, Rdr W R l1 → Calls Tryz.prog 68 #[.pointer (some ⟨R, 0, none⟩)] W fun e w' => e = .returned (.agg #[.int .i64 (hd l1).kind, .int .i64 (hd l1).vk, .int .i64 (hd l1).vn, .string ⟨(hd l1).vs.toArray⟩, .bool (hd l1).vb, .int .i64 (hd l1).vc, .int .i64 (hd l1).row, .int .i64 (hd l1).col, .bool (hd l1).fr, .bool (hd l1).fc, .string ⟨(hd l1).txt.toArray⟩, .int .i64 (hd l1).pos]) ∧ Rdr w' R l2 ∧ Bar R W w') := fun W hW => by
  have := take_any R l1 W hW (by rw [hl2]; exact n2)
  rw [hl2] at this
  exact this
 have HG : Hid (∀ W : World, Rdr W R (l2) → Calls Tryz.prog 39 #[.pointer (some ⟨R, 0, none⟩)] W fun e w' => e = .panicked [{ v := .iface 82 (.agg #[.int .i64 (hd (l2)).pos, .int .i64 5]), recovered := false }] ∧ w' = W) := fun W hW => giveUp_any R _ W hW
 have HKi : Hid (∀ W : World, Rdr W R (l2) → ∃ g o n cap, W.cell? ⟨R, 0, none⟩ = some (.slice (some ⟨g, o, none⟩) n cap) ∧ 0 < n ∧ W.cell? ⟨g, o, none⟩ = some (.int .i64 (hd (l2)).kind)) := fun W hW => by
  obtain ⟨hR, hf, hne, g, o, cap, hc, hc1, hc2, hg, ht⟩ := hW
  exact ⟨g, o, _, cap, hc, List.length_pos_iff.2 hne, ht 0 _ (hd_at hne) 0 (by omega)⟩
 have hRs := h.1
 have hkn : ((hd l2).kind != 2) = true := by simpa using hk2
 clear h hc hk hk2 he hl1 hl2 n1 n2 e1 e2
 have hf2 := tok_field2
 generalize hd l = T at *
 generalize hd l1 = V at *
 go_enter Tryz.func100, Tryz.ntmps100
 go_wp2_with (first | (go_at_call 68; refine (HT.out _ ?_).mono ?_; (focus ((repeat' (first | with_reducible (first | exact Hid.out (by assumption) | refine Rdr.set ?_ ?_ _ _ | refine Rdr.row ?_ ?_ _ | refine Rdr.alloc ?_ _ | refine Rdr.drew ?_ | refine Rdr.drewN ?_ _) | omega)); done)); rintro e w1 ⟨rfl, hr1, hb1⟩; have HR1 := hide hr1; have HB1 := hide hb1; have HX1 := hide (Box.bar (Box.new w (hdC zh (.slice none 0 0))) hb1 (by omega)); have z1 : w.heap.size < w1.heap.size := (by have := hb1.size; simp at this; omega); clear hr1 hb1) | (go_at_call 102; refine (HA.out _ ?_).mono ?_; (focus ((repeat' (first | with_reducible (first | exact Hid.out (by assumption) | refine Rdr.set ?_ ?_ _ _ | refine Rdr.row ?_ ?_ _ | refine Rdr.alloc ?_ _ | refine Rdr.drew ?_ | refine Rdr.drewN ?_ _) | omega)); done)); rintro e wz ⟨rfl, hz⟩; subst wz) | (go_at_call 68; refine (HT2.out _ ?_).mono ?_; (focus ((repeat' (first | with_reducible (first | exact Hid.out (by assumption) | refine Rdr.set ?_ ?_ _ _ | refine Rdr.row ?_ ?_ _ | refine Rdr.alloc ?_ _ | refine Rdr.drew ?_ | refine Rdr.drewN ?_ _) | omega)); done)); rintro e w2 ⟨rfl, hr2, hb2⟩; have HR2 := hide hr2; have HB2 := hide hb2; have c2_0 := fun o => hb2.cell (b := w1.heap.size) (o := o) (by first | (simp; done) | (simp; omega)) (by omega); have f2_0 := fun o => hb2.frozen (b := w1.heap.size) (o := o) (by first | (simp; done) | (simp; omega)) (by omega); have z2_0 : w1.heap.size < w2.heap.size := (by have := hb2.size; simp at this; omega); obtain ⟨g2, o2, m2, cap2, kc2, kl2, kk2⟩ := HKi.out _ hr2; have HX2 := hide ((HX1.out.alloc _).bar hb2 (by omega)); clear hr2 hb2) | (go_at_call 39; refine (HG.out _ ?_).mono ?_; (focus ((repeat' (first | with_reducible (first | exact Hid.out (by assumption) | refine Rdr.set ?_ ?_ _ _ | refine Rdr.row ?_ ?_ _ | refine Rdr.alloc ?_ _ | refine Rdr.drew ?_ | refine Rdr.drewN ?_ _) | omega)); done)); rintro e wz ⟨rfl, hz⟩; subst wz))
 refine ⟨rfl, rfl, ?_⟩
 (repeat' (first | with_reducible (first | exact Bar.refl _ _ | refine Bar.setNew ?_ ?_ _ | refine Bar.row ?_ ?_ _ | refine Bar.alloc ?_ _ | refine Bar.drew ?_ | refine Bar.drewN ?_ _ | refine Bar.trans ?_ (Hid.out (by assumption))) | (simp; done) | (simp; omega) | omega))
theorem cells_any (R : Nat) (l : List Tok) (w : World) (h : Rdr w R l) (he : Ended l) (hk : (hd l).kind = 2) : Calls Tryz.prog 100 #[.pointer (some ⟨R, 0, none⟩)] w (Told R w (rd .single l)) := by
  rw [rd_cell hk]
  by_cases hc : atB l.tail [58] = true
  · rw [if_pos hc]
    by_cases hk2 : (hd l.tail.tail).kind = 2
    · rw [if_pos hk2]; exact cells_yes R l _ rfl w h he hk _ _ rfl rfl hc hk2
    · rw [if_neg hk2]; exact cells_bad R l _ rfl w h he hk _ rfl hc hk2
  · rw [if_neg hc]; exact cells_no R l _ rfl w h he hk (by simpa using hc)
theorem Box.kids {w : World} {b : Nat} {h : Hd} {v : Value} (k : Box w b (hdC h v)) (u : Value) : Box (w.setCell ⟨b, 15, none⟩ u) b (hdC h u) := by
 unfold Box at *
 show (w.heap.modify b _)[b]? = _
 rw [Array.getElem?_modify, if_pos rfl, k]
 rfl
theorem Box.cell15 {w : World} {b : Nat} {h : Hd} {v : Value} (k : Box w b (hdC h v)) : w.cell? ⟨b, 15, none⟩ = some v ∧ w.frozen? ⟨b, 15, none⟩ = false := by
 unfold Box at k
 exact ⟨by rw [cell_of_row w b 15 _ _ _ k]; rfl, by simp [World.frozen?, k]⟩
theorem Box.setOther {w : World} {b g : Nat} {cs : List Value} (h : Box w b cs) (hb : b ≠ g) (i : Nat) (u : Value) : Box (w.setCell ⟨g, i, none⟩ u) b cs := by
 unfold Box; rw [Below.heap_setCell _ _ _ _ hb]; exact h
theorem call_none (R : Nat) (l l1 l2 : List Tok) (hl1 : l.tail = l1) (hl2 : l1.tail = l2) (w : World) (h : Rdr w R l) (he : Ended l) (hk : (hd l).kind = 3) (ho : atB l1 [40] = true) (l3 : List Tok) (hl3 : l2.tail = l3) (hc : atB l2 [41] = true) :
    Calls Tryz.prog 101 #[.pointer (some ⟨R, 0, none⟩)] w (Told R w (.ok (callH (hd l).txt) .nil l3)) := by
  have e1 : Ended l1 := hl1 ▸ ended_tail he (.inl (kind_ne hk (by decide)))
  have e2 : Ended l2 := hl2 ▸ ended_at e1 ho
  have n1 := ended_ne e1
  have n2 := ended_ne e2
  have HR := hide h
  have HT : Hid (∀ W : World, Rdr W R l → Calls Tryz.prog 68 #[.pointer (some ⟨R, 0, none⟩)] W fun e w' => e = .returned (.agg #[.int .i64 (hd l).kind, .int .i64 (hd l).vk, .int .i64 (hd l).vn, .string ⟨(hd l).vs.toArray⟩, .bool (hd l).vb, .int .i64 (hd l).vc, .int .i64 (hd l).row, .int .i64 (hd l).col, .bool (hd l).fr, .bool (hd l).fc, .string ⟨(hd l).txt.toArray⟩, .int .i64 (hd l).pos]) ∧ Rdr w' R l1 ∧ Bar R W w') := fun W hW => by
    have := take_any R l W hW (by rw [hl1]; exact n1)
    rw [hl1] at this
    exact this
  have HO : Hid (∀ W : World, Rdr W R l1 → Calls Tryz.prog 103 #[.pointer (some ⟨R, 0, none⟩), .string ⟨#[40]⟩] W fun e w' => e = .returned (.tuple #[]) ∧ Rdr w' R l2 ∧ Bar R W w') := fun W hW => by
    have := pass_yes R _ ⟨#[40]⟩ W hW (by rw [hl2]; exact n2) ho
    rw [hl2] at this
    exact this
  have e3 : Ended l3 := hl3 ▸ ended_at e2 hc
  have n3 := ended_ne e3
  have HA : Hid (∀ W : World, Rdr W R (l2) → Calls Tryz.prog 102 #[.pointer (some ⟨R, 0, none⟩), .string ⟨#[41]⟩] W fun e w' => e = .returned (.bool true) ∧ w' = W) := fun W hW => by
    have := at_any R _ ⟨#[41]⟩ W hW
    rw [show atB (l2) (⟨#[41]⟩ : ByteArray).data.toList = true from hc] at this
    exact this
  have HC : Hid (∀ W : World, Rdr W R l2 → Calls Tryz.prog 103 #[.pointer (some ⟨R, 0, none⟩), .string ⟨#[41]⟩] W fun e w' => e = .returned (.tuple #[]) ∧ Rdr w' R l3 ∧ Bar R W w') := fun W hW => by
    have := pass_yes R _ ⟨#[41]⟩ W hW (by rw [hl3]; exact n3) hc
    rw [hl3] at this
    exact this
  have hRs := h.1
  have hf3 := tok_field3
  have hns := newStore
  clear h he hk ho hc hl1 hl2 hl3 n1 n2 n3 e1 e2
  generalize hd l = T at *
  go_enter Tryz.func101, Tryz.ntmps101
  go_wp2_with (first | (with_reducible refine wpl_id ?_; refine wpl_load rfl _ rfl _ rfl (by ((repeat' (first | with_reducible (first | exact Hid.out (by assumption) | apply Box.set | exact Box.new _ _ | apply Box.other | apply Box.alloc | apply Box.drew | apply Box.drewN) | omega)); done)) ?_) | (with_reducible refine wpl_id ?_; refine wpl_buildN rfl _ _ rfl (qs := #[(0, .int .i64 6), (4, .string ⟨T.txt.toArray⟩)]) rfl (run_call T.txt _) ?_) | (go_at_call 68; refine (HT.out _ ?_).mono ?_; (focus ((repeat' (first | with_reducible (first | exact Hid.out (by assumption) | refine Rdr.set ?_ ?_ _ _ | refine Rdr.row ?_ ?_ _ | refine Rdr.alloc ?_ _ | refine Rdr.drew ?_ | refine Rdr.drewN ?_ _) | omega)); done)); rintro e w1 ⟨rfl, hr1, hb1⟩; have HR1 := hide hr1; have HB1 := hide hb1; have HX1 := hide (Box.bar (Box.new w (hdC zh (.slice none 0 0))) hb1 (by omega)); have z1 : w.heap.size < w1.heap.size := (by have := hb1.size; simp at this; omega); clear hr1 hb1) | (go_at_call_of 103 [Value.pointer (some ⟨R, 0, none⟩), Value.string ⟨#[40]⟩]; refine (HO.out _ ?_).mono ?_; (focus ((repeat' (first | with_reducible (first | exact Hid.out (by assumption) | refine Rdr.set ?_ ?_ _ _ | refine Rdr.row ?_ ?_ _ | refine Rdr.alloc ?_ _ | refine Rdr.drew ?_ | refine Rdr.drewN ?_ _) | omega)); done)); rintro e w2 ⟨rfl, hr2, hb2⟩; have HR2 := hide hr2; have HB2 := hide hb2; have HX2 := hide ((HX1.out.alloc _).bar hb2 (by omega)); have HY2 := hide ((Box.new w1 (hdC (callH T.txt) (.slice none 0 0))).bar hb2 (by omega)); have z2 := hb2.size; clear hr2 hb2) | (go_at_call 102; refine (HA.out _ ?_).mono ?_; (focus ((repeat' (first | with_reducible (first | exact Hid.out (by assumption) | refine Rdr.set ?_ ?_ _ _ | refine Rdr.row ?_ ?_ _ | refine Rdr.alloc ?_ _ | refine Rdr.drew ?_ | refine Rdr.drewN ?_ _) | omega)); done)); rintro e wz ⟨rfl, hz⟩; subst wz) | (go_at_call_of 103 [Value.pointer (some ⟨R, 0, none⟩), Value.string ⟨#[41]⟩]; refine (HC.out _ ?_).mono ?_; (focus ((repeat' (first | with_reducible (first | exact Hid.out (by assumption) | refine Rdr.set ?_ ?_ _ _ | refine Rdr.row ?_ ?_ _ | refine Rdr.alloc ?_ _ | refine Rdr.drew ?_ | refine Rdr.drewN ?_ _) | omega)); done)); rintro e w3 ⟨rfl, hr3, hb3⟩; have HR3 := hide hr3; have HB3 := hide hb3; have HX3 := hide (HX2.out.bar hb3 (by omega)); have HY3 := hide (HY2.out.bar hb3 (by omega)); have z3 := hb3.size; obtain ⟨ra3, rb3, _⟩ := HX3.out.rules rfl; clear hr3 hb3))
  refine bodyPost_ret (Box.ret rfl (HX3.out.set _) rfl) rfl ?_
  refine ⟨_, _, _, rfl, kv_nil _ _ _ _, ?_, ?_, e3⟩
  · (repeat' (first | with_reducible (first | exact Hid.out (by assumption) | refine Rdr.set ?_ ?_ _ _ | refine Rdr.row ?_ ?_ _ | refine Rdr.alloc ?_ _ | refine Rdr.drew ?_ | refine Rdr.drewN ?_ _) | omega))
  · (repeat' (first | with_reducible (first | exact Bar.refl _ _ | refine Bar.setNew ?_ ?_ _ | refine Bar.row ?_ ?_ _ | refine Bar.alloc ?_ _ | refine Bar.drew ?_ | refine Bar.drewN ?_ _ | refine Bar.trans ?_ (Hid.out (by assumption))) | (simp; done) | (simp; omega) | omega))
theorem call_bad (R : Nat) (l l1 l2 : List Tok) (hl1 : l.tail = l1) (hl2 : l1.tail = l2) (w : World) (h : Rdr w R l) (he : Ended l) (hk : (hd l).kind = 3) (ho : atB l1 [40] = true) (r : List Tok) (hc : atB l2 [41] = false) (HKs : ∀ W : World, Rdr W R l2 → Calls Tryz.prog 132 #[.pointer (some ⟨R, 0, none⟩)] W (ToldK R W (.bad r))) :
  Calls Tryz.prog 101 #[.pointer (some ⟨R, 0, none⟩)] w (Told R w (.bad r)) := by
 have e1 : Ended l1 := hl1 ▸ ended_tail he (.inl (kind_ne hk (by decide)))
 have e2 : Ended l2 := hl2 ▸ ended_at e1 ho
 have n1 := ended_ne e1
 have n2 := ended_ne e2
 have HR := hide h
 have HT : Hid (∀ W : World, Rdr W R l → Calls Tryz.prog 68 #[.pointer (some ⟨R, 0, none⟩)] W fun e w' => e = .returned (.agg #[.int .i64 (hd l).kind, .int .i64 (hd l).vk, .int .i64 (hd l).vn, .string ⟨(hd l).vs.toArray⟩, .bool (hd l).vb, .int .i64 (hd l).vc, .int .i64 (hd l).row, .int .i64 (hd l).col, .bool (hd l).fr, .bool (hd l).fc, .string ⟨(hd l).txt.toArray⟩, .int .i64 (hd l).pos]) ∧ Rdr w' R l1 ∧ Bar R W w') := fun W hW => by
  have := take_any R l W hW (by rw [hl1]; exact n1)
  rw [hl1] at this
  exact this
 have HO : Hid (∀ W : World, Rdr W R l1 → Calls Tryz.prog 103 #[.pointer (some ⟨R, 0, none⟩), .string ⟨#[40]⟩] W fun e w' => e = .returned (.tuple #[]) ∧ Rdr w' R l2 ∧ Bar R W w') := fun W hW => by
  have := pass_yes R _ ⟨#[40]⟩ W hW (by rw [hl2]; exact n2) ho
  rw [hl2] at this
  exact this
 have HA : Hid (∀ W : World, Rdr W R (l2) → Calls Tryz.prog 102 #[.pointer (some ⟨R, 0, none⟩), .string ⟨#[41]⟩] W fun e w' => e = .returned (.bool false) ∧ w' = W) := fun W hW => by
  have := at_any R _ ⟨#[41]⟩ W hW
  rw [show atB (l2) (⟨#[41]⟩ : ByteArray).data.toList = false from hc] at this
  exact this
 have HKi : Hid (∀ W : World, Rdr W R l2 → Calls Tryz.prog 132 #[.pointer (some ⟨R, 0, none⟩)] W fun e w' => e = .panicked [{ v := .iface 82 (.agg #[.int .i64 (hd r).pos, .int .i64 5]), recovered := false }] ∧ Bar R W w') := HKs
 have hRs := h.1
 have hf3 := tok_field3
 have hns := newStore
 clear h he hk ho hc hl1 hl2 n1 n2 e1 e2 HKs
 generalize hd l = T at *
 go_enter Tryz.func101, Tryz.ntmps101
 go_wp2_with (first | (with_reducible refine wpl_id ?_; refine wpl_load rfl _ rfl _ rfl (by ((repeat' (first | with_reducible (first | exact Hid.out (by assumption) | apply Box.set | exact Box.new _ _ | apply Box.other | apply Box.alloc | apply Box.drew | apply Box.drewN) | omega)); done)) ?_) | (with_reducible refine wpl_id ?_; refine wpl_buildN rfl _ _ rfl (qs := #[(0, .int .i64 6), (4, .string ⟨T.txt.toArray⟩)]) rfl (run_call T.txt _) ?_) | (go_at_call 68; refine (HT.out _ ?_).mono ?_; (focus ((repeat' (first | with_reducible (first | exact Hid.out (by assumption) | refine Rdr.set ?_ ?_ _ _ | refine Rdr.row ?_ ?_ _ | refine Rdr.alloc ?_ _ | refine Rdr.drew ?_ | refine Rdr.drewN ?_ _) | omega)); done)); rintro e w1 ⟨rfl, hr1, hb1⟩; have HR1 := hide hr1; have HB1 := hide hb1; have HX1 := hide (Box.bar (Box.new w (hdC zh (.slice none 0 0))) hb1 (by omega)); have z1 : w.heap.size < w1.heap.size := (by have := hb1.size; simp at this; omega); clear hr1 hb1) | (go_at_call_of 103 [Value.pointer (some ⟨R, 0, none⟩), Value.string ⟨#[40]⟩]; refine (HO.out _ ?_).mono ?_; (focus ((repeat' (first | with_reducible (first | exact Hid.out (by assumption) | refine Rdr.set ?_ ?_ _ _ | refine Rdr.row ?_ ?_ _ | refine Rdr.alloc ?_ _ | refine Rdr.drew ?_ | refine Rdr.drewN ?_ _) | omega)); done)); rintro e w2 ⟨rfl, hr2, hb2⟩; have HR2 := hide hr2; have HB2 := hide hb2; have HX2 := hide ((HX1.out.alloc _).bar hb2 (by omega)); have HY2 := hide ((Box.new w1 (hdC (callH T.txt) (.slice none 0 0))).bar hb2 (by omega)); have z2 := hb2.size; clear hr2 hb2) | (go_at_call 102; refine (HA.out _ ?_).mono ?_; (focus ((repeat' (first | with_reducible (first | exact Hid.out (by assumption) | refine Rdr.set ?_ ?_ _ _ | refine Rdr.row ?_ ?_ _ | refine Rdr.alloc ?_ _ | refine Rdr.drew ?_ | refine Rdr.drewN ?_ _) | omega)); done)); rintro e wz ⟨rfl, hz⟩; subst wz) | (go_at_call 132; refine (HKi.out _ ?_).mono ?_; (focus ((repeat' (first | with_reducible (first | exact Hid.out (by assumption) | refine Rdr.set ?_ ?_ _ _ | refine Rdr.row ?_ ?_ _ | refine Rdr.alloc ?_ _ | refine Rdr.drew ?_ | refine Rdr.drewN ?_ _) | omega)); done)); rintro e w3 ⟨rfl, hb3⟩; have HB3 := hide hb3; clear hb3))
 refine ⟨rfl, rfl, ?_⟩
 (repeat' (first | with_reducible (first | exact Bar.refl _ _ | refine Bar.setNew ?_ ?_ _ | refine Bar.row ?_ ?_ _ | refine Bar.alloc ?_ _ | refine Bar.drew ?_ | refine Bar.drewN ?_ _ | refine Bar.trans ?_ (Hid.out (by assumption))) | (simp; done) | (simp; omega) | omega))
theorem call_open (R : Nat) (l l1 l2 : List Tok) (hl1 : l.tail = l1) (hl2 : l1.tail = l2) (w : World) (h : Rdr w R l) (he : Ended l) (hk : (hd l).kind = 3) (ho : atB l1 [40] = true) (k : Fo) (r : List Tok) (hc : atB l2 [41] = false) (HKs : ∀ W : World, Rdr W R l2 → Calls Tryz.prog 132 #[.pointer (some ⟨R, 0, none⟩)] W (ToldK R W (.ok zh k r))) (hz : atB r [41] = false) :
  Calls Tryz.prog 101 #[.pointer (some ⟨R, 0, none⟩)] w (Told R w (.bad r)) := by
 have e1 : Ended l1 := hl1 ▸ ended_tail he (.inl (kind_ne hk (by decide)))
 have e2 : Ended l2 := hl2 ▸ ended_at e1 ho
 have n1 := ended_ne e1
 have n2 := ended_ne e2
 have HR := hide h
 have HT : Hid (∀ W : World, Rdr W R l → Calls Tryz.prog 68 #[.pointer (some ⟨R, 0, none⟩)] W fun e w' => e = .returned (.agg #[.int .i64 (hd l).kind, .int .i64 (hd l).vk, .int .i64 (hd l).vn, .string ⟨(hd l).vs.toArray⟩, .bool (hd l).vb, .int .i64 (hd l).vc, .int .i64 (hd l).row, .int .i64 (hd l).col, .bool (hd l).fr, .bool (hd l).fc, .string ⟨(hd l).txt.toArray⟩, .int .i64 (hd l).pos]) ∧ Rdr w' R l1 ∧ Bar R W w') := fun W hW => by
  have := take_any R l W hW (by rw [hl1]; exact n1)
  rw [hl1] at this
  exact this
 have HO : Hid (∀ W : World, Rdr W R l1 → Calls Tryz.prog 103 #[.pointer (some ⟨R, 0, none⟩), .string ⟨#[40]⟩] W fun e w' => e = .returned (.tuple #[]) ∧ Rdr w' R l2 ∧ Bar R W w') := fun W hW => by
  have := pass_yes R _ ⟨#[40]⟩ W hW (by rw [hl2]; exact n2) ho
  rw [hl2] at this
  exact this
 have HA : Hid (∀ W : World, Rdr W R (l2) → Calls Tryz.prog 102 #[.pointer (some ⟨R, 0, none⟩), .string ⟨#[41]⟩] W fun e w' => e = .returned (.bool false) ∧ w' = W) := fun W hW => by
  have := at_any R _ ⟨#[41]⟩ W hW
  rw [show atB (l2) (⟨#[41]⟩ : ByteArray).data.toList = false from hc] at this
  exact this
 have HKi : Hid (∀ W : World, Rdr W R l2 → Calls Tryz.prog 132 #[.pointer (some ⟨R, 0, none⟩)] W fun e w' => ∃ a n cap, e = .returned (.slice a n cap) ∧ Kv w' (New W w') (.slice a n cap) k ∧ Rdr w' R r ∧ Bar R W w' ∧ Ended r) := HKs
 have HC : Hid (∀ W : World, Rdr W R (r) → Calls Tryz.prog 103 #[.pointer (some ⟨R, 0, none⟩), .string ⟨#[41]⟩] W fun e w' => e = .panicked [{ v := .iface 82 (.agg #[.int .i64 (hd (r)).pos, .int .i64 5]), recovered := false }] ∧ w' = W) := fun W hW => pass_no R _ ⟨#[41]⟩ W hW hz
 have hRs := h.1
 have hf3 := tok_field3
 have hns := newStore
 clear h he hk ho hc hl1 hl2 n1 n2 e1 e2 HKs
 generalize hd l = T at *
 go_enter Tryz.func101, Tryz.ntmps101
 go_wp2_with (first | (with_reducible refine wpl_id ?_; refine wpl_load rfl _ rfl _ rfl (by ((repeat' (first | with_reducible (first | exact Hid.out (by assumption) | apply Box.set | exact Box.new _ _ | apply Box.other | apply Box.alloc | apply Box.drew | apply Box.drewN) | omega)); done)) ?_) | (with_reducible refine wpl_id ?_; refine wpl_buildN rfl _ _ rfl (qs := #[(0, .int .i64 6), (4, .string ⟨T.txt.toArray⟩)]) rfl (run_call T.txt _) ?_) | (go_at_call 68; refine (HT.out _ ?_).mono ?_; (focus ((repeat' (first | with_reducible (first | exact Hid.out (by assumption) | refine Rdr.set ?_ ?_ _ _ | refine Rdr.row ?_ ?_ _ | refine Rdr.alloc ?_ _ | refine Rdr.drew ?_ | refine Rdr.drewN ?_ _) | omega)); done)); rintro e w1 ⟨rfl, hr1, hb1⟩; have HR1 := hide hr1; have HB1 := hide hb1; have HX1 := hide (Box.bar (Box.new w (hdC zh (.slice none 0 0))) hb1 (by omega)); have z1 : w.heap.size < w1.heap.size := (by have := hb1.size; simp at this; omega); clear hr1 hb1) | (go_at_call_of 103 [Value.pointer (some ⟨R, 0, none⟩), Value.string ⟨#[40]⟩]; refine (HO.out _ ?_).mono ?_; (focus ((repeat' (first | with_reducible (first | exact Hid.out (by assumption) | refine Rdr.set ?_ ?_ _ _ | refine Rdr.row ?_ ?_ _ | refine Rdr.alloc ?_ _ | refine Rdr.drew ?_ | refine Rdr.drewN ?_ _) | omega)); done)); rintro e w2 ⟨rfl, hr2, hb2⟩; have HR2 := hide hr2; have HB2 := hide hb2; have HX2 := hide ((HX1.out.alloc _).bar hb2 (by omega)); have HY2 := hide ((Box.new w1 (hdC (callH T.txt) (.slice none 0 0))).bar hb2 (by omega)); have z2 := hb2.size; clear hr2 hb2) | (go_at_call 102; refine (HA.out _ ?_).mono ?_; (focus ((repeat' (first | with_reducible (first | exact Hid.out (by assumption) | refine Rdr.set ?_ ?_ _ _ | refine Rdr.row ?_ ?_ _ | refine Rdr.alloc ?_ _ | refine Rdr.drew ?_ | refine Rdr.drewN ?_ _) | omega)); done)); rintro e wz ⟨rfl, hz⟩; subst wz) | (go_at_call 132; refine (HKi.out _ ?_).mono ?_; (focus ((repeat' (first | with_reducible (first | exact Hid.out (by assumption) | refine Rdr.set ?_ ?_ _ _ | refine Rdr.row ?_ ?_ _ | refine Rdr.alloc ?_ _ | refine Rdr.drew ?_ | refine Rdr.drewN ?_ _) | omega)); done)); rintro e w3 ⟨a3, n3, cap3, rfl, hk3, hr3, hb3, he3⟩; have HK3 := hide hk3; have HR3 := hide hr3; have HB3 := hide hb3; have HE3 := hide he3; have HX3 := hide (HX2.out.bar hb3 (by omega)); have HY3 := hide (HY2.out.bar hb3 (by omega)); have z3 := hb3.size; obtain ⟨kc3, kf3⟩ := HY3.out.cell15; clear hk3 hr3 hb3 he3) | (go_at_call_of 103 [Value.pointer (some ⟨R, 0, none⟩), Value.string ⟨#[41]⟩]; refine (HC.out _ ?_).mono ?_; (focus ((repeat' (first | with_reducible (first | exact Hid.out (by assumption) | refine Rdr.set ?_ ?_ _ _ | refine Rdr.row ?_ ?_ _ | refine Rdr.alloc ?_ _ | refine Rdr.drew ?_ | refine Rdr.drewN ?_ _) | omega)); done)); rintro e wz ⟨rfl, hz⟩; subst wz))
 refine ⟨rfl, rfl, ?_⟩
 (repeat' (first | with_reducible (first | exact Bar.refl _ _ | refine Bar.setNew ?_ ?_ _ | refine Bar.row ?_ ?_ _ | refine Bar.alloc ?_ _ | refine Bar.drew ?_ | refine Bar.drewN ?_ _ | refine Bar.trans ?_ (Hid.out (by assumption))) | (simp; done) | (simp; omega) | omega))
theorem call_kids (R : Nat) (l l1 l2 : List Tok) (hl1 : l.tail = l1) (hl2 : l1.tail = l2) (w : World) (h : Rdr w R l) (he : Ended l) (hk : (hd l).kind = 3) (ho : atB l1 [40] = true) (k : Fo) (r : List Tok) (hc : atB l2 [41] = false) (HKs : ∀ W : World, Rdr W R l2 → Calls Tryz.prog 132 #[.pointer (some ⟨R, 0, none⟩)] W (ToldK R W (.ok zh k r))) (r3 : List Tok) (hr3 : r.tail = r3) (hz : atB r [41] = true) (her : Ended r) :
    Calls Tryz.prog 101 #[.pointer (some ⟨R, 0, none⟩)] w (Told R w (.ok (callH (hd l).txt) k r3)) := by
  have e1 : Ended l1 := hl1 ▸ ended_tail he (.inl (kind_ne hk (by decide)))
  have e2 : Ended l2 := hl2 ▸ ended_at e1 ho
  have n1 := ended_ne e1
  have n2 := ended_ne e2
  have HR := hide h
  have HT : Hid (∀ W : World, Rdr W R l → Calls Tryz.prog 68 #[.pointer (some ⟨R, 0, none⟩)] W fun e w' => e = .returned (.agg #[.int .i64 (hd l).kind, .int .i64 (hd l).vk, .int .i64 (hd l).vn, .string ⟨(hd l).vs.toArray⟩, .bool (hd l).vb, .int .i64 (hd l).vc, .int .i64 (hd l).row, .int .i64 (hd l).col, .bool (hd l).fr, .bool (hd l).fc, .string ⟨(hd l).txt.toArray⟩, .int .i64 (hd l).pos]) ∧ Rdr w' R l1 ∧ Bar R W w') := fun W hW => by
    have := take_any R l W hW (by rw [hl1]; exact n1)
    rw [hl1] at this
    exact this
  have HO : Hid (∀ W : World, Rdr W R l1 → Calls Tryz.prog 103 #[.pointer (some ⟨R, 0, none⟩), .string ⟨#[40]⟩] W fun e w' => e = .returned (.tuple #[]) ∧ Rdr w' R l2 ∧ Bar R W w') := fun W hW => by
    have := pass_yes R _ ⟨#[40]⟩ W hW (by rw [hl2]; exact n2) ho
    rw [hl2] at this
    exact this
  have HA : Hid (∀ W : World, Rdr W R (l2) → Calls Tryz.prog 102 #[.pointer (some ⟨R, 0, none⟩), .string ⟨#[41]⟩] W fun e w' => e = .returned (.bool false) ∧ w' = W) := fun W hW => by
    have := at_any R _ ⟨#[41]⟩ W hW
    rw [show atB (l2) (⟨#[41]⟩ : ByteArray).data.toList = false from hc] at this
    exact this
  have HKi : Hid (∀ W : World, Rdr W R l2 → Calls Tryz.prog 132 #[.pointer (some ⟨R, 0, none⟩)] W fun e w' => ∃ a n cap, e = .returned (.slice a n cap) ∧ Kv w' (New W w') (.slice a n cap) k ∧ Rdr w' R r ∧ Bar R W w' ∧ Ended r) := HKs
  have e3 : Ended r3 := hr3 ▸ ended_at her hz
  have n3 := ended_ne e3
  have HC : Hid (∀ W : World, Rdr W R r → Calls Tryz.prog 103 #[.pointer (some ⟨R, 0, none⟩), .string ⟨#[41]⟩] W fun e w' => e = .returned (.tuple #[]) ∧ Rdr w' R r3 ∧ Bar R W w') := fun W hW => by
    have := pass_yes R _ ⟨#[41]⟩ W hW (by rw [hr3]; exact n3) hz
    rw [hr3] at this
    exact this
  have hRs := h.1
  have hf3 := tok_field3
  have hns := newStore
  clear h he hk ho hc hl1 hl2 n1 n2 e1 e2 HKs hz hr3 n3 her
  generalize hd l = T at *
  go_enter Tryz.func101, Tryz.ntmps101
  go_wp2_with (first | (with_reducible refine wpl_id ?_; refine wpl_load rfl _ rfl _ rfl (by ((repeat' (first | with_reducible (first | exact Hid.out (by assumption) | apply Box.set | exact Box.new _ _ | apply Box.other | apply Box.alloc | apply Box.drew | apply Box.drewN) | omega)); done)) ?_) | (with_reducible refine wpl_id ?_; refine wpl_buildN rfl _ _ rfl (qs := #[(0, .int .i64 6), (4, .string ⟨T.txt.toArray⟩)]) rfl (run_call T.txt _) ?_) | (go_at_call 68; refine (HT.out _ ?_).mono ?_; (focus ((repeat' (first | with_reducible (first | exact Hid.out (by assumption) | refine Rdr.set ?_ ?_ _ _ | refine Rdr.row ?_ ?_ _ | refine Rdr.alloc ?_ _ | refine Rdr.drew ?_ | refine Rdr.drewN ?_ _) | omega)); done)); rintro e w1 ⟨rfl, hr1, hb1⟩; have HR1 := hide hr1; have HB1 := hide hb1; have HX1 := hide (Box.bar (Box.new w (hdC zh (.slice none 0 0))) hb1 (by omega)); have z1 : w.heap.size < w1.heap.size := (by have := hb1.size; simp at this; omega); clear hr1 hb1) | (go_at_call_of 103 [Value.pointer (some ⟨R, 0, none⟩), Value.string ⟨#[40]⟩]; refine (HO.out _ ?_).mono ?_; (focus ((repeat' (first | with_reducible (first | exact Hid.out (by assumption) | refine Rdr.set ?_ ?_ _ _ | refine Rdr.row ?_ ?_ _ | refine Rdr.alloc ?_ _ | refine Rdr.drew ?_ | refine Rdr.drewN ?_ _) | omega)); done)); rintro e w2 ⟨rfl, hr2, hb2⟩; have HR2 := hide hr2; have HB2 := hide hb2; have HX2 := hide ((HX1.out.alloc _).bar hb2 (by omega)); have HY2 := hide ((Box.new w1 (hdC (callH T.txt) (.slice none 0 0))).bar hb2 (by omega)); have z2 := hb2.size; clear hr2 hb2) | (go_at_call 102; refine (HA.out _ ?_).mono ?_; (focus ((repeat' (first | with_reducible (first | exact Hid.out (by assumption) | refine Rdr.set ?_ ?_ _ _ | refine Rdr.row ?_ ?_ _ | refine Rdr.alloc ?_ _ | refine Rdr.drew ?_ | refine Rdr.drewN ?_ _) | omega)); done)); rintro e wz ⟨rfl, hz⟩; subst wz) | (go_at_call 132; refine (HKi.out _ ?_).mono ?_; (focus ((repeat' (first | with_reducible (first | exact Hid.out (by assumption) | refine Rdr.set ?_ ?_ _ _ | refine Rdr.row ?_ ?_ _ | refine Rdr.alloc ?_ _ | refine Rdr.drew ?_ | refine Rdr.drewN ?_ _) | omega)); done)); rintro e w3 ⟨a3, n3, cap3, rfl, hk3, hr3, hb3, he3⟩; have HK3 := hide hk3; have HR3 := hide hr3; have HB3 := hide hb3; have HE3 := hide he3; have HX3 := hide (HX2.out.bar hb3 (by omega)); have HY3 := hide (HY2.out.bar hb3 (by omega)); have z3 := hb3.size; obtain ⟨kc3, kf3⟩ := HY3.out.cell15; clear hk3 hr3 hb3 he3) | (go_at_call_of 103 [Value.pointer (some ⟨R, 0, none⟩), Value.string ⟨#[41]⟩]; refine (HC.out _ ?_).mono ?_; (focus ((repeat' (first | with_reducible (first | exact Hid.out (by assumption) | refine Rdr.set ?_ ?_ _ _ | refine Rdr.row ?_ ?_ _ | refine Rdr.alloc ?_ _ | refine Rdr.drew ?_ | refine Rdr.drewN ?_ _) | omega)); done)); rintro e w4 ⟨rfl, hr4, hb4⟩; have HR4 := hide hr4; have HB4 := hide hb4; have HX4 := hide ((HX3.out.setOther (by omega) 15 (.slice a3 n3 cap3)).bar hb4 (by omega)); have HY4 := hide ((HY3.out.kids (.slice a3 n3 cap3)).bar hb4 (by omega)); have z4 := hb4.size; obtain ⟨ra4, rb4, _⟩ := HX4.out.rules rfl; clear hr4 hb4))
  refine bodyPost_ret (Box.ret rfl (HX4.out.set _) rfl) rfl ?_
  have z4' : w3.heap.size ≤ w4.heap.size := by simpa using z4
  have s2 : w1.heap.size < w2.heap.size := by have := HB2.out.size; simp at this; omega
  have s3 : w2.heap.size ≤ w3.heap.size := HB3.out.size
  refine ⟨_, _, _, rfl, kv_to HK3.out (fun b hb => ?_), ?_, ?_, e3⟩
  · have q1 := hb.1
    have q2 := hb.2
    refine ⟨⟨by omega, by rw [setRow_size]; omega⟩, ?_⟩
    rw [setRow_heap _ _ _ _ (by omega), HB4.out.block b (by simpa using q2) (by omega), Below.heap_setCell _ _ _ _ (by show b ≠ w1.heap.size; have := HY3.out.lt; have := HY2.out.lt; omega)]
  · (repeat' (first | with_reducible (first | exact Hid.out (by assumption) | refine Rdr.set ?_ ?_ _ _ | refine Rdr.row ?_ ?_ _ | refine Rdr.alloc ?_ _ | refine Rdr.drew ?_ | refine Rdr.drewN ?_ _) | omega))
  · (repeat' (first | with_reducible (first | exact Bar.refl _ _ | refine Bar.setNew ?_ ?_ _ | refine Bar.row ?_ ?_ _ | refine Bar.alloc ?_ _ | refine Bar.drew ?_ | refine Bar.drewN ?_ _ | refine Bar.trans ?_ (Hid.out (by assumption))) | (simp; done) | (simp; omega) | omega))
theorem call_no (R : Nat) (l l1 : List Tok) (hl1 : l.tail = l1) (w : World) (h : Rdr w R l) (he : Ended l) (hk : (hd l).kind = 3) (ho : atB l1 [40] = false) :
  Calls Tryz.prog 101 #[.pointer (some ⟨R, 0, none⟩)] w (Told R w (.bad l1)) := by
 have e1 : Ended l1 := hl1 ▸ ended_tail he (.inl (kind_ne hk (by decide)))
 have n1 := ended_ne e1
 have HR := hide h
 have HT : Hid (∀ W : World, Rdr W R l → Calls Tryz.prog 68 #[.pointer (some ⟨R, 0, none⟩)] W fun e w' => e = .returned (.agg #[.int .i64 (hd l).kind, .int .i64 (hd l).vk, .int .i64 (hd l).vn, .string ⟨(hd l).vs.toArray⟩, .bool (hd l).vb, .int .i64 (hd l).vc, .int .i64 (hd l).row, .int .i64 (hd l).col, .bool (hd l).fr, .bool (hd l).fc, .string ⟨(hd l).txt.toArray⟩, .int .i64 (hd l).pos]) ∧ Rdr w' R l1 ∧ Bar R W w') := fun W hW => by
  have := take_any R l W hW (by rw [hl1]; exact n1)
  rw [hl1] at this
  exact this
 have HC : Hid (∀ W : World, Rdr W R (l1) → Calls Tryz.prog 103 #[.pointer (some ⟨R, 0, none⟩), .string ⟨#[40]⟩] W fun e w' => e = .panicked [{ v := .iface 82 (.agg #[.int .i64 (hd (l1)).pos, .int .i64 5]), recovered := false }] ∧ w' = W) := fun W hW => pass_no R _ ⟨#[40]⟩ W hW ho
 have hRs := h.1
 have hf3 := tok_field3
 have hns := newStore
 clear h he hk ho hl1 n1 e1
 generalize hd l = T at *
 go_enter Tryz.func101, Tryz.ntmps101
 go_wp2_with (first | (with_reducible refine wpl_id ?_; refine wpl_load rfl _ rfl _ rfl (by ((repeat' (first | with_reducible (first | exact Hid.out (by assumption) | apply Box.set | exact Box.new _ _ | apply Box.other | apply Box.alloc | apply Box.drew | apply Box.drewN) | omega)); done)) ?_) | (with_reducible refine wpl_id ?_; refine wpl_buildN rfl _ _ rfl (qs := #[(0, .int .i64 6), (4, .string ⟨T.txt.toArray⟩)]) rfl (run_call T.txt _) ?_) | (go_at_call 68; refine (HT.out _ ?_).mono ?_; (focus ((repeat' (first | with_reducible (first | exact Hid.out (by assumption) | refine Rdr.set ?_ ?_ _ _ | refine Rdr.row ?_ ?_ _ | refine Rdr.alloc ?_ _ | refine Rdr.drew ?_ | refine Rdr.drewN ?_ _) | omega)); done)); rintro e w1 ⟨rfl, hr1, hb1⟩; have HR1 := hide hr1; have HB1 := hide hb1; have HX1 := hide (Box.bar (Box.new w (hdC zh (.slice none 0 0))) hb1 (by omega)); have z1 : w.heap.size < w1.heap.size := (by have := hb1.size; simp at this; omega); clear hr1 hb1) | (go_at_call 103; refine (HC.out _ ?_).mono ?_; (focus ((repeat' (first | with_reducible (first | exact Hid.out (by assumption) | refine Rdr.set ?_ ?_ _ _ | refine Rdr.row ?_ ?_ _ | refine Rdr.alloc ?_ _ | refine Rdr.drew ?_ | refine Rdr.drewN ?_ _) | omega)); done)); rintro e wz ⟨rfl, hz⟩; subst wz))
 refine ⟨rfl, rfl, ?_⟩
 (repeat' (first | with_reducible (first | exact Bar.refl _ _ | refine Bar.setNew ?_ ?_ _ | refine Bar.row ?_ ?_ _ | refine Bar.alloc ?_ _ | refine Bar.drew ?_ | refine Bar.drewN ?_ _ | refine Bar.trans ?_ (Hid.out (by assumption))) | (simp; done) | (simp; omega) | omega))
theorem call_any (R : Nat) (l : List Tok) (w : World) (h : Rdr w R l) (he : Ended l) (hk : (hd l).kind = 3) (HKs : ∀ (l' : List Tok) (W : World), l'.length < l.length → Ended l' → Rdr W R l' → Calls Tryz.prog 132 #[.pointer (some ⟨R, 0, none⟩)] W (ToldK R W (rd (.kids .nil) l'))) :
    Calls Tryz.prog 101 #[.pointer (some ⟨R, 0, none⟩)] w (Told R w (rd .single l)) := by
  have e1 := ended_tail he (.inl (kind_ne hk (by decide)))
  have t1 := tail_kind (l := l) (kind_ne hk (by decide))
  by_cases ho : atB l.tail [40] = true
  · have e2 := ended_at e1 ho
    have t2 := tail_lt ho
    rw [rd_call hk ho]
    by_cases hc : atB l.tail.tail [41] = true
    · rw [if_pos hc]; exact call_none R l _ _ rfl rfl w h he hk ho _ rfl hc
    · rw [if_neg hc]
      have hc' : atB l.tail.tail [41] = false := by simpa using hc
      have HK2 := fun W hW => HKs l.tail.tail W (by omega) e2 hW
      cases e : rd (.kids .nil) l.tail.tail with
      | bad r =>
        rw [e] at HK2
        exact call_bad R l _ _ rfl rfl w h he hk ho r hc' HK2
      | ok z k r =>
        rw [e] at HK2
        have er := rd_ended (c := .kids .nil) trivial e2 e
        simp only [Rs.on]
        by_cases hz : atB r [41] = true
        · rw [if_pos hz]; exact call_kids R l _ _ rfl rfl w h he hk ho k r hc' HK2 _ rfl hz er
        · rw [if_neg hz]; exact call_open R l _ _ rfl rfl w h he hk ho k r hc' HK2 (by simpa using hz)
  · have ho' : atB l.tail [40] = false := by simpa using ho
    rw [rd_call_no hk ho']
    exact call_no R l _ rfl w h he hk ho'
end Go.Proofs.YtiaoaifoecmemaaGreatDoor
