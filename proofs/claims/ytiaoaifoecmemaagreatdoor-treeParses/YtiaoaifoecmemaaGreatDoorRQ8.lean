/-
  The contract of the reader's single; the reader's functions all together.
  The contracts of tree's refused, read and Parse.
  The contract of tree's read.
-/
import Derived.Test.YtiaoaifoecmemaaGreatDoorRQ7
import Derived.Test.YtiaoaifoecmemaaGreatDoorRQ5
set_option maxRecDepth 100000
set_option maxHeartbeats 4000000
namespace Go.Proofs.YtiaoaifoecmemaaGreatDoor
open Go.RowKit
theorem single_value (R : Nat) (l : List Tok) (w : World) (h : Rdr w R l) (he : Ended l) (l1 : List Tok) (hl1 : l.tail = l1) (hk : (hd l).kind = 1) :
    Calls Tryz.prog 67 #[.pointer (some ⟨R, 0, none⟩)] w (Told R w (.ok (valH (hd l)) .nil l1)) := by
  have _ := he
  have HR := hide h
  obtain ⟨g0, o0, m0, cap0, kc0, kl0, kg0, kk0⟩ : ∃ g o n cap, w.cell? ⟨R, 0, none⟩ = some (.slice (some ⟨g, o, none⟩) n cap) ∧ 0 < n ∧ g < w.heap.size ∧ w.cell? ⟨g, o, none⟩ = some (.int .i64 (hd l).kind) := by
    obtain ⟨hR, hf, hne, g, o, cap, hc, hc1, hc2, hg, ht⟩ := h
    exact ⟨g, o, _, cap, hc, List.length_pos_iff.2 hne, Nat.lt_trans hg hR, ht 0 _ (hd_at hne) 0 (by omega)⟩
  have hRs := h.1
  have e1 : Ended l1 := hl1 ▸ ended_tail he (.inl (kind_ne hk (by decide)))
  have n1 := ended_ne e1
  have HT : Hid (∀ W : World, Rdr W R l → Calls Tryz.prog 68 #[.pointer (some ⟨R, 0, none⟩)] W fun e w' => e = .returned (.agg #[.int .i64 (hd l).kind, .int .i64 (hd l).vk, .int .i64 (hd l).vn, .string ⟨(hd l).vs.toArray⟩, .bool (hd l).vb, .int .i64 (hd l).vc, .int .i64 (hd l).row, .int .i64 (hd l).col, .bool (hd l).fr, .bool (hd l).fc, .string ⟨(hd l).txt.toArray⟩, .int .i64 (hd l).pos]) ∧ Rdr w' R l1 ∧ Bar R W w') := fun W hW => by
    have := take_any R l W hW (by rw [hl1]; exact n1)
    rw [hl1] at this
    exact this
  have q1 : ((hd l).kind == 1) = true := by simpa using hk
  clear h he hk hl1 n1
  have hf1 := tok_field1
  generalize hd l = T at *
  go_enter Tryz.func67, Tryz.ntmps67
  go_wp2_with (first | (with_reducible refine wpl_id ?_; refine wpl_buildN rfl _ _ rfl (qs := #[(0, .int .i64 1), (1, .agg #[.int .i64 T.vk, .int .i64 T.vn, .string ⟨T.vs.toArray⟩, .bool T.vb, .int .i64 T.vc])]) rfl (run_val T _) ?_) | (go_at_call 68; refine (HT.out _ ?_).mono ?_; (focus ((repeat' (first | with_reducible (first | exact Hid.out (by assumption) | refine Rdr.set ?_ ?_ _ _ | refine Rdr.row ?_ ?_ _ | refine Rdr.alloc ?_ _ | refine Rdr.drew ?_ | refine Rdr.drewN ?_ _) | omega)); done)); rintro e w1 ⟨rfl, hr1, hb1⟩; have HR1 := hide hr1; have HB1 := hide hb1; have HX1 := hide (Box.bar (Box.new w (hdC zh (.slice none 0 0))) hb1 (by omega)); have z1 : w.heap.size < w1.heap.size := (by have := hb1.size; simp at this; omega); obtain ⟨ra1, rb1, rc1⟩ := HX1.out.rules rfl; clear hr1 hb1))
  refine bodyPost_ret (Box.ret rfl (HX1.out.set _) rfl) rfl ?_
  refine ⟨_, _, _, rfl, kv_nil _ _ _ _, ?_, ?_, e1⟩
  · (repeat' (first | with_reducible (first | exact Hid.out (by assumption) | refine Rdr.set ?_ ?_ _ _ | refine Rdr.row ?_ ?_ _ | refine Rdr.alloc ?_ _ | refine Rdr.drew ?_ | refine Rdr.drewN ?_ _) | omega))
  · (repeat' (first | with_reducible (first | exact Bar.refl _ _ | refine Bar.setNew ?_ ?_ _ | refine Bar.row ?_ ?_ _ | refine Bar.alloc ?_ _ | refine Bar.drew ?_ | refine Bar.drewN ?_ _ | refine Bar.trans ?_ (Hid.out (by assumption))) | (simp; done) | (simp; omega) | omega))
theorem single_cells_ok (R : Nat) (l : List Tok) (w : World) (h : Rdr w R l) (he : Ended l) (hk : (hd l).kind = 2) (h2 : Hd) (k : Fo) (r : List Tok) (HG : ∀ W : World, Rdr W R l → Calls Tryz.prog 100 #[.pointer (some ⟨R, 0, none⟩)] W (Told R W (.ok h2 k r))) :
    Calls Tryz.prog 67 #[.pointer (some ⟨R, 0, none⟩)] w (Told R w (.ok h2 k r)) := by
  have _ := he
  have HR := hide h
  obtain ⟨g0, o0, m0, cap0, kc0, kl0, kg0, kk0⟩ : ∃ g o n cap, w.cell? ⟨R, 0, none⟩ = some (.slice (some ⟨g, o, none⟩) n cap) ∧ 0 < n ∧ g < w.heap.size ∧ w.cell? ⟨g, o, none⟩ = some (.int .i64 (hd l).kind) := by
    obtain ⟨hR, hf, hne, g, o, cap, hc, hc1, hc2, hg, ht⟩ := h
    exact ⟨g, o, _, cap, hc, List.length_pos_iff.2 hne, Nat.lt_trans hg hR, ht 0 _ (hd_at hne) 0 (by omega)⟩
  have hRs := h.1
  have HGi : Hid (∀ W : World, Rdr W R l → Calls Tryz.prog 100 #[.pointer (some ⟨R, 0, none⟩)] W fun e w' => ∃ a n cap, e = .returned (.agg (hdC h2 (.slice a n cap)).toArray) ∧ Kv w' (New W w') (.slice a n cap) k ∧ Rdr w' R r ∧ Bar R W w' ∧ Ended r) := HG
  have q1 : ((hd l).kind == 1) = false := by simp; omega
  have q2 : ((hd l).kind == 2) = true := by simpa using hk
  clear h he hk HG
  generalize hd l = T at *
  go_enter Tryz.func67, Tryz.ntmps67
  go_wp2_with (first | (go_at_call 100; refine (HGi.out _ ?_).mono ?_; (focus ((repeat' (first | with_reducible (first | exact Hid.out (by assumption) | refine Rdr.set ?_ ?_ _ _ | refine Rdr.row ?_ ?_ _ | refine Rdr.alloc ?_ _ | refine Rdr.drew ?_ | refine Rdr.drewN ?_ _) | omega)); done)); rintro e w1 ⟨a1, n1, cap1, rfl, hk1, hr1, hb1, he1⟩; have HK1 := hide hk1; have HR1 := hide hr1; have HB1 := hide hb1; have HE1 := hide he1; have HX1 := hide (Box.bar (Box.new w (hdC zh (.slice none 0 0))) hb1 (by omega)); have z1 : w.heap.size < w1.heap.size := (by have := hb1.size; simp at this; omega); obtain ⟨ra1, rb1, rc1⟩ := HX1.out.rules rfl; clear hk1 hr1 hb1 he1))
  refine bodyPost_ret (Box.ret rfl (HX1.out.set _) rfl) rfl ?_
  refine ⟨_, _, _, rfl, kv_to HK1.out (fun b hb => ?_), ?_, ?_, HE1.out⟩
  · have q1 : w.heap.size + 1 ≤ b := by have := hb.1; simpa using this
    exact ⟨⟨by omega, by rw [setRow_size]; exact hb.2⟩, setRow_heap _ _ _ _ (by omega)⟩
  · (repeat' (first | with_reducible (first | exact Hid.out (by assumption) | refine Rdr.set ?_ ?_ _ _ | refine Rdr.row ?_ ?_ _ | refine Rdr.alloc ?_ _ | refine Rdr.drew ?_ | refine Rdr.drewN ?_ _) | omega))
  · (repeat' (first | with_reducible (first | exact Bar.refl _ _ | refine Bar.setNew ?_ ?_ _ | refine Bar.row ?_ ?_ _ | refine Bar.alloc ?_ _ | refine Bar.drew ?_ | refine Bar.drewN ?_ _ | refine Bar.trans ?_ (Hid.out (by assumption))) | (simp; done) | (simp; omega) | omega))
theorem single_cells_bad (R : Nat) (l : List Tok) (w : World) (h : Rdr w R l) (he : Ended l) (hk : (hd l).kind = 2) (r : List Tok) (HG : ∀ W : World, Rdr W R l → Calls Tryz.prog 100 #[.pointer (some ⟨R, 0, none⟩)] W (Told R W (.bad r))) :
  Calls Tryz.prog 67 #[.pointer (some ⟨R, 0, none⟩)] w (Told R w (.bad r)) := by
 have _ := he
 have HR := hide h
 obtain ⟨g0, o0, m0, cap0, kc0, kl0, kg0, kk0⟩ : ∃ g o n cap, w.cell? ⟨R, 0, none⟩ = some (.slice (some ⟨g, o, none⟩) n cap) ∧ 0 < n ∧ g < w.heap.size ∧ w.cell? ⟨g, o, none⟩ = some (.int .i64 (hd l).kind) := by
  obtain ⟨hR, hf, hne, g, o, cap, hc, hc1, hc2, hg, ht⟩ := h
  exact ⟨g, o, _, cap, hc, List.length_pos_iff.2 hne, Nat.lt_trans hg hR, ht 0 _ (hd_at hne) 0 (by omega)⟩
 have hRs := h.1
 have HGi : Hid (∀ W : World, Rdr W R l → Calls Tryz.prog 100 #[.pointer (some ⟨R, 0, none⟩)] W fun e w' => e = .panicked [{ v := .iface 82 (.agg #[.int .i64 (hd r).pos, .int .i64 5]), recovered := false }] ∧ Bar R W w') := HG
 have q1 : ((hd l).kind == 1) = false := by simp; omega
 have q2 : ((hd l).kind == 2) = true := by simpa using hk
 clear h he hk HG
 generalize hd l = T at *
 go_enter Tryz.func67, Tryz.ntmps67
 go_wp2_with (first | (go_at_call 100; refine (HGi.out _ ?_).mono ?_; (focus ((repeat' (first | with_reducible (first | exact Hid.out (by assumption) | refine Rdr.set ?_ ?_ _ _ | refine Rdr.row ?_ ?_ _ | refine Rdr.alloc ?_ _ | refine Rdr.drew ?_ | refine Rdr.drewN ?_ _) | omega)); done)); rintro e w1 ⟨rfl, hb1⟩; have HB1 := hide hb1; clear hb1))
 refine ⟨rfl, rfl, ?_⟩
 (repeat' (first | with_reducible (first | exact Bar.refl _ _ | refine Bar.setNew ?_ ?_ _ | refine Bar.row ?_ ?_ _ | refine Bar.alloc ?_ _ | refine Bar.drew ?_ | refine Bar.drewN ?_ _ | refine Bar.trans ?_ (Hid.out (by assumption))) | (simp; done) | (simp; omega) | omega))
theorem single_call_ok (R : Nat) (l : List Tok) (w : World) (h : Rdr w R l) (he : Ended l) (hk : (hd l).kind = 3) (h2 : Hd) (k : Fo) (r : List Tok) (HG : ∀ W : World, Rdr W R l → Calls Tryz.prog 101 #[.pointer (some ⟨R, 0, none⟩)] W (Told R W (.ok h2 k r))) :
    Calls Tryz.prog 67 #[.pointer (some ⟨R, 0, none⟩)] w (Told R w (.ok h2 k r)) := by
  have _ := he
  have HR := hide h
  obtain ⟨g0, o0, m0, cap0, kc0, kl0, kg0, kk0⟩ : ∃ g o n cap, w.cell? ⟨R, 0, none⟩ = some (.slice (some ⟨g, o, none⟩) n cap) ∧ 0 < n ∧ g < w.heap.size ∧ w.cell? ⟨g, o, none⟩ = some (.int .i64 (hd l).kind) := by
    obtain ⟨hR, hf, hne, g, o, cap, hc, hc1, hc2, hg, ht⟩ := h
    exact ⟨g, o, _, cap, hc, List.length_pos_iff.2 hne, Nat.lt_trans hg hR, ht 0 _ (hd_at hne) 0 (by omega)⟩
  have hRs := h.1
  have HGi : Hid (∀ W : World, Rdr W R l → Calls Tryz.prog 101 #[.pointer (some ⟨R, 0, none⟩)] W fun e w' => ∃ a n cap, e = .returned (.agg (hdC h2 (.slice a n cap)).toArray) ∧ Kv w' (New W w') (.slice a n cap) k ∧ Rdr w' R r ∧ Bar R W w' ∧ Ended r) := HG
  have q1 : ((hd l).kind == 1) = false := by simp; omega
  have q2 : ((hd l).kind == 2) = false := by simp; omega
  have q3 : ((hd l).kind == 3) = true := by simpa using hk
  clear h he hk HG
  generalize hd l = T at *
  go_enter Tryz.func67, Tryz.ntmps67
  go_wp2_with (first | (go_at_call 101; refine (HGi.out _ ?_).mono ?_; (focus ((repeat' (first | with_reducible (first | exact Hid.out (by assumption) | refine Rdr.set ?_ ?_ _ _ | refine Rdr.row ?_ ?_ _ | refine Rdr.alloc ?_ _ | refine Rdr.drew ?_ | refine Rdr.drewN ?_ _) | omega)); done)); rintro e w1 ⟨a1, n1, cap1, rfl, hk1, hr1, hb1, he1⟩; have HK1 := hide hk1; have HR1 := hide hr1; have HB1 := hide hb1; have HE1 := hide he1; have HX1 := hide (Box.bar (Box.new w (hdC zh (.slice none 0 0))) hb1 (by omega)); have z1 : w.heap.size < w1.heap.size := (by have := hb1.size; simp at this; omega); obtain ⟨ra1, rb1, rc1⟩ := HX1.out.rules rfl; clear hk1 hr1 hb1 he1))
  refine bodyPost_ret (Box.ret rfl (HX1.out.set _) rfl) rfl ?_
  refine ⟨_, _, _, rfl, kv_to HK1.out (fun b hb => ?_), ?_, ?_, HE1.out⟩
  · have q1 : w.heap.size + 1 ≤ b := by have := hb.1; simpa using this
    exact ⟨⟨by omega, by rw [setRow_size]; exact hb.2⟩, setRow_heap _ _ _ _ (by omega)⟩
  · (repeat' (first | with_reducible (first | exact Hid.out (by assumption) | refine Rdr.set ?_ ?_ _ _ | refine Rdr.row ?_ ?_ _ | refine Rdr.alloc ?_ _ | refine Rdr.drew ?_ | refine Rdr.drewN ?_ _) | omega))
  · (repeat' (first | with_reducible (first | exact Bar.refl _ _ | refine Bar.setNew ?_ ?_ _ | refine Bar.row ?_ ?_ _ | refine Bar.alloc ?_ _ | refine Bar.drew ?_ | refine Bar.drewN ?_ _ | refine Bar.trans ?_ (Hid.out (by assumption))) | (simp; done) | (simp; omega) | omega))
theorem single_call_bad (R : Nat) (l : List Tok) (w : World) (h : Rdr w R l) (he : Ended l) (hk : (hd l).kind = 3) (r : List Tok) (HG : ∀ W : World, Rdr W R l → Calls Tryz.prog 101 #[.pointer (some ⟨R, 0, none⟩)] W (Told R W (.bad r))) :
  Calls Tryz.prog 67 #[.pointer (some ⟨R, 0, none⟩)] w (Told R w (.bad r)) := by
 have _ := he
 have HR := hide h
 obtain ⟨g0, o0, m0, cap0, kc0, kl0, kg0, kk0⟩ : ∃ g o n cap, w.cell? ⟨R, 0, none⟩ = some (.slice (some ⟨g, o, none⟩) n cap) ∧ 0 < n ∧ g < w.heap.size ∧ w.cell? ⟨g, o, none⟩ = some (.int .i64 (hd l).kind) := by
  obtain ⟨hR, hf, hne, g, o, cap, hc, hc1, hc2, hg, ht⟩ := h
  exact ⟨g, o, _, cap, hc, List.length_pos_iff.2 hne, Nat.lt_trans hg hR, ht 0 _ (hd_at hne) 0 (by omega)⟩
 have hRs := h.1
 have HGi : Hid (∀ W : World, Rdr W R l → Calls Tryz.prog 101 #[.pointer (some ⟨R, 0, none⟩)] W fun e w' => e = .panicked [{ v := .iface 82 (.agg #[.int .i64 (hd r).pos, .int .i64 5]), recovered := false }] ∧ Bar R W w') := HG
 have q1 : ((hd l).kind == 1) = false := by simp; omega
 have q2 : ((hd l).kind == 2) = false := by simp; omega
 have q3 : ((hd l).kind == 3) = true := by simpa using hk
 clear h he hk HG
 generalize hd l = T at *
 go_enter Tryz.func67, Tryz.ntmps67
 go_wp2_with (first | (go_at_call 101; refine (HGi.out _ ?_).mono ?_; (focus ((repeat' (first | with_reducible (first | exact Hid.out (by assumption) | refine Rdr.set ?_ ?_ _ _ | refine Rdr.row ?_ ?_ _ | refine Rdr.alloc ?_ _ | refine Rdr.drew ?_ | refine Rdr.drewN ?_ _) | omega)); done)); rintro e w1 ⟨rfl, hb1⟩; have HB1 := hide hb1; clear hb1))
 refine ⟨rfl, rfl, ?_⟩
 (repeat' (first | with_reducible (first | exact Bar.refl _ _ | refine Bar.setNew ?_ ?_ _ | refine Bar.row ?_ ?_ _ | refine Bar.alloc ?_ _ | refine Bar.drew ?_ | refine Bar.drewN ?_ _ | refine Bar.trans ?_ (Hid.out (by assumption))) | (simp; done) | (simp; omega) | omega))
theorem single_minus_bad (R : Nat) (l : List Tok) (w : World) (h : Rdr w R l) (he : Ended l) (l1 : List Tok) (hl1 : l.tail = l1) (hk : (hd l).kind = 4) (hm : atB l [45] = true) (r : List Tok) (HG : ∀ W : World, Rdr W R l1 → Calls Tryz.prog 67 #[.pointer (some ⟨R, 0, none⟩)] W (Told R W (.bad r))) :
  Calls Tryz.prog 67 #[.pointer (some ⟨R, 0, none⟩)] w (Told R w (.bad r)) := by
 have _ := he
 have HR := hide h
 obtain ⟨g0, o0, m0, cap0, kc0, kl0, kg0, kk0⟩ : ∃ g o n cap, w.cell? ⟨R, 0, none⟩ = some (.slice (some ⟨g, o, none⟩) n cap) ∧ 0 < n ∧ g < w.heap.size ∧ w.cell? ⟨g, o, none⟩ = some (.int .i64 (hd l).kind) := by
  obtain ⟨hR, hf, hne, g, o, cap, hc, hc1, hc2, hg, ht⟩ := h
  exact ⟨g, o, _, cap, hc, List.length_pos_iff.2 hne, Nat.lt_trans hg hR, ht 0 _ (hd_at hne) 0 (by omega)⟩
 have hRs := h.1
 have e1 : Ended l1 := hl1 ▸ ended_at he hm
 have n1 := ended_ne e1
 have HT : Hid (∀ W : World, Rdr W R l → Calls Tryz.prog 68 #[.pointer (some ⟨R, 0, none⟩)] W fun e w' => e = .returned (.agg #[.int .i64 (hd l).kind, .int .i64 (hd l).vk, .int .i64 (hd l).vn, .string ⟨(hd l).vs.toArray⟩, .bool (hd l).vb, .int .i64 (hd l).vc, .int .i64 (hd l).row, .int .i64 (hd l).col, .bool (hd l).fr, .bool (hd l).fc, .string ⟨(hd l).txt.toArray⟩, .int .i64 (hd l).pos]) ∧ Rdr w' R l1 ∧ Bar R W w') := fun W hW => by
  have := take_any R l W hW (by rw [hl1]; exact n1)
  rw [hl1] at this
  exact this
 have HA : Hid (∀ W : World, Rdr W R (l) → Calls Tryz.prog 102 #[.pointer (some ⟨R, 0, none⟩), .string ⟨#[45]⟩] W fun e w' => e = .returned (.bool true) ∧ w' = W) := fun W hW => by
  have := at_any R _ ⟨#[45]⟩ W hW
  rw [show atB (l) (⟨#[45]⟩ : ByteArray).data.toList = true from hm] at this
  exact this
 have q1 : ((hd l).kind == 1) = false := by simp; omega
 have q2 : ((hd l).kind == 2) = false := by simp; omega
 have q3 : ((hd l).kind == 3) = false := by simp; omega
 have HGi : Hid (∀ W : World, Rdr W R l1 → Calls Tryz.prog 67 #[.pointer (some ⟨R, 0, none⟩)] W fun e w' => e = .panicked [{ v := .iface 82 (.agg #[.int .i64 (hd r).pos, .int .i64 5]), recovered := false }] ∧ Bar R W w') := HG
 clear h he hk hm hl1 n1 e1 HG
 generalize hd l = T at *
 go_enter Tryz.func67, Tryz.ntmps67
 go_wp2_with (first | (go_at_call 102; refine (HA.out _ ?_).mono ?_; (focus ((repeat' (first | with_reducible (first | exact Hid.out (by assumption) | refine Rdr.set ?_ ?_ _ _ | refine Rdr.row ?_ ?_ _ | refine Rdr.alloc ?_ _ | refine Rdr.drew ?_ | refine Rdr.drewN ?_ _) | omega)); done)); rintro e wz ⟨rfl, hz⟩; subst wz) | (go_at_call 68; refine (HT.out _ ?_).mono ?_; (focus ((repeat' (first | with_reducible (first | exact Hid.out (by assumption) | refine Rdr.set ?_ ?_ _ _ | refine Rdr.row ?_ ?_ _ | refine Rdr.alloc ?_ _ | refine Rdr.drew ?_ | refine Rdr.drewN ?_ _) | omega)); done)); rintro e w1 ⟨rfl, hr1, hb1⟩; have HR1 := hide hr1; have HB1 := hide hb1; clear hr1 hb1) | (go_at_call 67; refine (HGi.out _ ?_).mono ?_; (focus ((repeat' (first | with_reducible (first | exact Hid.out (by assumption) | refine Rdr.set ?_ ?_ _ _ | refine Rdr.row ?_ ?_ _ | refine Rdr.alloc ?_ _ | refine Rdr.drew ?_ | refine Rdr.drewN ?_ _) | omega)); done)); rintro e w2 ⟨rfl, hb2⟩; have HB2 := hide hb2; clear hb2))
 refine ⟨rfl, rfl, ?_⟩
 (repeat' (first | with_reducible (first | exact Bar.refl _ _ | refine Bar.setNew ?_ ?_ _ | refine Bar.row ?_ ?_ _ | refine Bar.alloc ?_ _ | refine Bar.drew ?_ | refine Bar.drewN ?_ _ | refine Bar.trans ?_ (Hid.out (by assumption))) | (simp; done) | (simp; omega) | omega))
theorem single_minus_ok (R : Nat) (l : List Tok) (w : World) (h : Rdr w R l) (he : Ended l) (l1 : List Tok) (hl1 : l.tail = l1) (hk : (hd l).kind = 4) (hm : atB l [45] = true) (h2 : Hd) (k : Fo) (r : List Tok) (HG : ∀ W : World, Rdr W R l1 → Calls Tryz.prog 67 #[.pointer (some ⟨R, 0, none⟩)] W (Told R W (.ok h2 k r))) :
    Calls Tryz.prog 67 #[.pointer (some ⟨R, 0, none⟩)] w (Told R w (.ok negH (.cons h2 k .nil) r)) := by
  have _ := he
  have HR := hide h
  obtain ⟨g0, o0, m0, cap0, kc0, kl0, kg0, kk0⟩ : ∃ g o n cap, w.cell? ⟨R, 0, none⟩ = some (.slice (some ⟨g, o, none⟩) n cap) ∧ 0 < n ∧ g < w.heap.size ∧ w.cell? ⟨g, o, none⟩ = some (.int .i64 (hd l).kind) := by
    obtain ⟨hR, hf, hne, g, o, cap, hc, hc1, hc2, hg, ht⟩ := h
    exact ⟨g, o, _, cap, hc, List.length_pos_iff.2 hne, Nat.lt_trans hg hR, ht 0 _ (hd_at hne) 0 (by omega)⟩
  have hRs := h.1
  have e1 : Ended l1 := hl1 ▸ ended_at he hm
  have n1 := ended_ne e1
  have HT : Hid (∀ W : World, Rdr W R l → Calls Tryz.prog 68 #[.pointer (some ⟨R, 0, none⟩)] W fun e w' => e = .returned (.agg #[.int .i64 (hd l).kind, .int .i64 (hd l).vk, .int .i64 (hd l).vn, .string ⟨(hd l).vs.toArray⟩, .bool (hd l).vb, .int .i64 (hd l).vc, .int .i64 (hd l).row, .int .i64 (hd l).col, .bool (hd l).fr, .bool (hd l).fc, .string ⟨(hd l).txt.toArray⟩, .int .i64 (hd l).pos]) ∧ Rdr w' R l1 ∧ Bar R W w') := fun W hW => by
    have := take_any R l W hW (by rw [hl1]; exact n1)
    rw [hl1] at this
    exact this
  have HA : Hid (∀ W : World, Rdr W R (l) → Calls Tryz.prog 102 #[.pointer (some ⟨R, 0, none⟩), .string ⟨#[45]⟩] W fun e w' => e = .returned (.bool true) ∧ w' = W) := fun W hW => by
    have := at_any R _ ⟨#[45]⟩ W hW
    rw [show atB (l) (⟨#[45]⟩ : ByteArray).data.toList = true from hm] at this
    exact this
  have q1 : ((hd l).kind == 1) = false := by simp; omega
  have q2 : ((hd l).kind == 2) = false := by simp; omega
  have q3 : ((hd l).kind == 3) = false := by simp; omega
  have HGi : Hid (∀ W : World, Rdr W R l1 → Calls Tryz.prog 67 #[.pointer (some ⟨R, 0, none⟩)] W fun e w' => ∃ a n cap, e = .returned (.agg (hdC h2 (.slice a n cap)).toArray) ∧ Kv w' (New W w') (.slice a n cap) k ∧ Rdr w' R r ∧ Bar R W w' ∧ Ended r) := HG
  clear h he hk hm hl1 n1 e1 HG
  generalize hd l = T at *
  go_enter Tryz.func67, Tryz.ntmps67
  go_wp2_with (first | (go_at_call 102; refine (HA.out _ ?_).mono ?_; (focus ((repeat' (first | with_reducible (first | exact Hid.out (by assumption) | refine Rdr.set ?_ ?_ _ _ | refine Rdr.row ?_ ?_ _ | refine Rdr.alloc ?_ _ | refine Rdr.drew ?_ | refine Rdr.drewN ?_ _) | omega)); done)); rintro e wz ⟨rfl, hz⟩; subst wz) | (go_at_call 68; refine (HT.out _ ?_).mono ?_; (focus ((repeat' (first | with_reducible (first | exact Hid.out (by assumption) | refine Rdr.set ?_ ?_ _ _ | refine Rdr.row ?_ ?_ _ | refine Rdr.alloc ?_ _ | refine Rdr.drew ?_ | refine Rdr.drewN ?_ _) | omega)); done)); rintro e w1 ⟨rfl, hr1, hb1⟩; have HR1 := hide hr1; have HB1 := hide hb1; have HX1 := hide (Box.bar (Box.new w (hdC zh (.slice none 0 0))) hb1 (by omega)); have z1 : w.heap.size < w1.heap.size := (by have := hb1.size; simp at this; omega); obtain ⟨ra1, rb1, rc1⟩ := HX1.out.rules rfl; clear hr1 hb1) | (go_at_call 67; refine (HGi.out _ ?_).mono ?_; (focus ((repeat' (first | with_reducible (first | exact Hid.out (by assumption) | refine Rdr.set ?_ ?_ _ _ | refine Rdr.row ?_ ?_ _ | refine Rdr.alloc ?_ _ | refine Rdr.drew ?_ | refine Rdr.drewN ?_ _) | omega)); done)); rintro e w2 ⟨a2, n2, cap2, rfl, hk2, hr2, hb2, he2⟩; have HK2 := hide hk2; have HR2 := hide hr2; have HB2 := hide hb2; have HE2 := hide he2; have HX2 := hide (HX1.out.bar hb2 (by omega)); have z2 := hb2.size; obtain ⟨ra2, rb2, rc2⟩ := HX2.out.rules rfl; clear hk2 hr2 hb2 he2) | (with_reducible refine wpl_id ?_; refine wpl_buildS rfl _ _ _ rfl (qs := #[(0, .agg (hdC h2 (.slice a2 n2 cap2)).toArray)]) rfl (build1 h2 (.slice a2 n2 cap2) _) ?_) | (with_reducible refine wpl_id ?_; refine wpl_buildN rfl _ _ rfl (qs := #[(0, .int .i64 4), (5, .slice (some ⟨w2.heap.size, 0, none⟩) 1 1)]) rfl (run_neg (some ⟨w2.heap.size, 0, none⟩) 1 1 _) ?_))
  refine bodyPost_ret (Box.ret rfl ((HX2.out.alloc _).set _) rfl) rfl ?_
  refine ⟨_, _, _, rfl, kv_one (t := 34) (fz := (0, 0)) ?_ ?_ (kv_to HK2.out (fun b hb => ?_)), ?_, ?_, HE2.out⟩
  · rw [setRow_heap _ _ _ _ (by omega)]; exact heap_alloc_new _ _
  · refine ⟨by omega, ?_⟩
    rw [setRow_size]; simp
  · have q1 := hb.1
    have q2 := hb.2
    refine ⟨⟨by omega, ?_⟩, ?_⟩
    · rw [setRow_size]; simp; omega
    · rw [setRow_heap _ _ _ _ (by omega), Below.heap_alloc _ _ _ q2]
  · (repeat' (first | with_reducible (first | exact Hid.out (by assumption) | refine Rdr.set ?_ ?_ _ _ | refine Rdr.row ?_ ?_ _ | refine Rdr.alloc ?_ _ | refine Rdr.drew ?_ | refine Rdr.drewN ?_ _) | omega))
  · (repeat' (first | with_reducible (first | exact Bar.refl _ _ | refine Bar.setNew ?_ ?_ _ | refine Bar.row ?_ ?_ _ | refine Bar.alloc ?_ _ | refine Bar.drew ?_ | refine Bar.drewN ?_ _ | refine Bar.trans ?_ (Hid.out (by assumption))) | (simp; done) | (simp; omega) | omega))
theorem single_open_bad (R : Nat) (l : List Tok) (w : World) (h : Rdr w R l) (he : Ended l) (l1 : List Tok) (hl1 : l.tail = l1) (hk : (hd l).kind = 4) (hm : atB l [40] = true) (r : List Tok) (HG : ∀ W : World, Rdr W R l1 → Calls Tryz.prog 38 #[.pointer (some ⟨R, 0, none⟩), .int .i64 1] W (Told R W (.bad r))) :
  Calls Tryz.prog 67 #[.pointer (some ⟨R, 0, none⟩)] w (Told R w (.bad r)) := by
 have _ := he
 have HR := hide h
 obtain ⟨g0, o0, m0, cap0, kc0, kl0, kg0, kk0⟩ : ∃ g o n cap, w.cell? ⟨R, 0, none⟩ = some (.slice (some ⟨g, o, none⟩) n cap) ∧ 0 < n ∧ g < w.heap.size ∧ w.cell? ⟨g, o, none⟩ = some (.int .i64 (hd l).kind) := by
  obtain ⟨hR, hf, hne, g, o, cap, hc, hc1, hc2, hg, ht⟩ := h
  exact ⟨g, o, _, cap, hc, List.length_pos_iff.2 hne, Nat.lt_trans hg hR, ht 0 _ (hd_at hne) 0 (by omega)⟩
 have hRs := h.1
 have hm' : atB l [45] = false := atB_two hm (by decide)
 have e1 : Ended l1 := hl1 ▸ ended_at he hm
 have n1 := ended_ne e1
 have HA : Hid (∀ W : World, Rdr W R (l) → Calls Tryz.prog 102 #[.pointer (some ⟨R, 0, none⟩), .string ⟨#[45]⟩] W fun e w' => e = .returned (.bool false) ∧ w' = W) := fun W hW => by
  have := at_any R _ ⟨#[45]⟩ W hW
  rw [show atB (l) (⟨#[45]⟩ : ByteArray).data.toList = false from hm'] at this
  exact this
 have HO : Hid (∀ W : World, Rdr W R l → Calls Tryz.prog 103 #[.pointer (some ⟨R, 0, none⟩), .string ⟨#[40]⟩] W fun e w' => e = .returned (.tuple #[]) ∧ Rdr w' R l1 ∧ Bar R W w') := fun W hW => by
  have := pass_yes R _ ⟨#[40]⟩ W hW (by rw [hl1]; exact n1) hm
  rw [hl1] at this
  exact this
 have q1 : ((hd l).kind == 1) = false := by simp; omega
 have q2 : ((hd l).kind == 2) = false := by simp; omega
 have q3 : ((hd l).kind == 3) = false := by simp; omega
 have HGi : Hid (∀ W : World, Rdr W R l1 → Calls Tryz.prog 38 #[.pointer (some ⟨R, 0, none⟩), .int .i64 1] W fun e w' => e = .panicked [{ v := .iface 82 (.agg #[.int .i64 (hd r).pos, .int .i64 5]), recovered := false }] ∧ Bar R W w') := HG
 clear h he hk hm hm' hl1 n1 e1 HG
 generalize hd l = T at *
 go_enter Tryz.func67, Tryz.ntmps67
 go_wp2_with (first | (go_at_call 102; refine (HA.out _ ?_).mono ?_; (focus ((repeat' (first | with_reducible (first | exact Hid.out (by assumption) | refine Rdr.set ?_ ?_ _ _ | refine Rdr.row ?_ ?_ _ | refine Rdr.alloc ?_ _ | refine Rdr.drew ?_ | refine Rdr.drewN ?_ _) | omega)); done)); rintro e wz ⟨rfl, hz⟩; subst wz) | (go_at_call_of 103 [Value.pointer (some ⟨R, 0, none⟩), Value.string ⟨#[40]⟩]; refine (HO.out _ ?_).mono ?_; (focus ((repeat' (first | with_reducible (first | exact Hid.out (by assumption) | refine Rdr.set ?_ ?_ _ _ | refine Rdr.row ?_ ?_ _ | refine Rdr.alloc ?_ _ | refine Rdr.drew ?_ | refine Rdr.drewN ?_ _) | omega)); done)); rintro e w1 ⟨rfl, hr1, hb1⟩; have HR1 := hide hr1; have HB1 := hide hb1; have HX1 := hide (Box.bar (Box.new w (hdC zh (.slice none 0 0))) hb1 (by omega)); have z1 : w.heap.size < w1.heap.size := (by have := hb1.size; simp at this; omega); obtain ⟨ra1, rb1, rc1⟩ := HX1.out.rules rfl; clear hr1 hb1) | (go_at_call 38; refine (HGi.out _ ?_).mono ?_; (focus ((repeat' (first | with_reducible (first | exact Hid.out (by assumption) | refine Rdr.set ?_ ?_ _ _ | refine Rdr.row ?_ ?_ _ | refine Rdr.alloc ?_ _ | refine Rdr.drew ?_ | refine Rdr.drewN ?_ _) | omega)); done)); rintro e w2 ⟨rfl, hb2⟩; have HB2 := hide hb2; clear hb2))
 refine ⟨rfl, rfl, ?_⟩
 (repeat' (first | with_reducible (first | exact Bar.refl _ _ | refine Bar.setNew ?_ ?_ _ | refine Bar.row ?_ ?_ _ | refine Bar.alloc ?_ _ | refine Bar.drew ?_ | refine Bar.drewN ?_ _ | refine Bar.trans ?_ (Hid.out (by assumption))) | (simp; done) | (simp; omega) | omega))
theorem single_open_no (R : Nat) (l : List Tok) (w : World) (h : Rdr w R l) (he : Ended l) (l1 : List Tok) (hl1 : l.tail = l1) (hk : (hd l).kind = 4) (hm : atB l [40] = true) (h2 : Hd) (k : Fo) (r : List Tok) (HG : ∀ W : World, Rdr W R l1 → Calls Tryz.prog 38 #[.pointer (some ⟨R, 0, none⟩), .int .i64 1] W (Told R W (.ok h2 k r))) (hz : atB r [41] = false) :
  Calls Tryz.prog 67 #[.pointer (some ⟨R, 0, none⟩)] w (Told R w (.bad r)) := by
 have _ := he
 have HR := hide h
 obtain ⟨g0, o0, m0, cap0, kc0, kl0, kg0, kk0⟩ : ∃ g o n cap, w.cell? ⟨R, 0, none⟩ = some (.slice (some ⟨g, o, none⟩) n cap) ∧ 0 < n ∧ g < w.heap.size ∧ w.cell? ⟨g, o, none⟩ = some (.int .i64 (hd l).kind) := by
  obtain ⟨hR, hf, hne, g, o, cap, hc, hc1, hc2, hg, ht⟩ := h
  exact ⟨g, o, _, cap, hc, List.length_pos_iff.2 hne, Nat.lt_trans hg hR, ht 0 _ (hd_at hne) 0 (by omega)⟩
 have hRs := h.1
 have hm' : atB l [45] = false := atB_two hm (by decide)
 have e1 : Ended l1 := hl1 ▸ ended_at he hm
 have n1 := ended_ne e1
 have HA : Hid (∀ W : World, Rdr W R (l) → Calls Tryz.prog 102 #[.pointer (some ⟨R, 0, none⟩), .string ⟨#[45]⟩] W fun e w' => e = .returned (.bool false) ∧ w' = W) := fun W hW => by
  have := at_any R _ ⟨#[45]⟩ W hW
  rw [show atB (l) (⟨#[45]⟩ : ByteArray).data.toList = false from hm'] at this
  exact this
 have HO : Hid (∀ W : World, Rdr W R l → Calls Tryz.prog 103 #[.pointer (some ⟨R, 0, none⟩), .string ⟨#[40]⟩] W fun e w' => e = .returned (.tuple #[]) ∧ Rdr w' R l1 ∧ Bar R W w') := fun W hW => by
  have := pass_yes R _ ⟨#[40]⟩ W hW (by rw [hl1]; exact n1) hm
  rw [hl1] at this
  exact this
 have q1 : ((hd l).kind == 1) = false := by simp; omega
 have q2 : ((hd l).kind == 2) = false := by simp; omega
 have q3 : ((hd l).kind == 3) = false := by simp; omega
 have HGi : Hid (∀ W : World, Rdr W R l1 → Calls Tryz.prog 38 #[.pointer (some ⟨R, 0, none⟩), .int .i64 1] W fun e w' => ∃ a n cap, e = .returned (.agg (hdC h2 (.slice a n cap)).toArray) ∧ Kv w' (New W w') (.slice a n cap) k ∧ Rdr w' R r ∧ Bar R W w' ∧ Ended r) := HG
 have HC : Hid (∀ W : World, Rdr W R (r) → Calls Tryz.prog 103 #[.pointer (some ⟨R, 0, none⟩), .string ⟨#[41]⟩] W fun e w' => e = .panicked [{ v := .iface 82 (.agg #[.int .i64 (hd (r)).pos, .int .i64 5]), recovered := false }] ∧ w' = W) := fun W hW => pass_no R _ ⟨#[41]⟩ W hW hz
 have hns := newStore
 clear h he hk hm hm' hl1 n1 e1 HG hz
 generalize hd l = T at *
 go_enter Tryz.func67, Tryz.ntmps67
 go_wp2_with (first | (go_at_call 102; refine (HA.out _ ?_).mono ?_; (focus ((repeat' (first | with_reducible (first | exact Hid.out (by assumption) | refine Rdr.set ?_ ?_ _ _ | refine Rdr.row ?_ ?_ _ | refine Rdr.alloc ?_ _ | refine Rdr.drew ?_ | refine Rdr.drewN ?_ _) | omega)); done)); rintro e wz ⟨rfl, hz⟩; subst wz) | (go_at_call_of 103 [Value.pointer (some ⟨R, 0, none⟩), Value.string ⟨#[40]⟩]; refine (HO.out _ ?_).mono ?_; (focus ((repeat' (first | with_reducible (first | exact Hid.out (by assumption) | refine Rdr.set ?_ ?_ _ _ | refine Rdr.row ?_ ?_ _ | refine Rdr.alloc ?_ _ | refine Rdr.drew ?_ | refine Rdr.drewN ?_ _) | omega)); done)); rintro e w1 ⟨rfl, hr1, hb1⟩; have HR1 := hide hr1; have HB1 := hide hb1; have HX1 := hide (Box.bar (Box.new w (hdC zh (.slice none 0 0))) hb1 (by omega)); have z1 : w.heap.size < w1.heap.size := (by have := hb1.size; simp at this; omega); obtain ⟨ra1, rb1, rc1⟩ := HX1.out.rules rfl; clear hr1 hb1) | (go_at_call 38; refine (HGi.out _ ?_).mono ?_; (focus ((repeat' (first | with_reducible (first | exact Hid.out (by assumption) | refine Rdr.set ?_ ?_ _ _ | refine Rdr.row ?_ ?_ _ | refine Rdr.alloc ?_ _ | refine Rdr.drew ?_ | refine Rdr.drewN ?_ _) | omega)); done)); rintro e w2 ⟨a2, n2, cap2, rfl, hk2, hr2, hb2, he2⟩; have HK2 := hide hk2; have HR2 := hide hr2; have HB2 := hide hb2; have HE2 := hide he2; have HX2 := hide (HX1.out.bar hb2 (by omega)); have z2 := hb2.size; clear hk2 hr2 hb2 he2) | (go_at_call_of 103 [Value.pointer (some ⟨R, 0, none⟩), Value.string ⟨#[41]⟩]; refine (HC.out _ ?_).mono ?_; (focus ((repeat' (first | with_reducible (first | exact Hid.out (by assumption) | refine Rdr.set ?_ ?_ _ _ | refine Rdr.row ?_ ?_ _ | refine Rdr.alloc ?_ _ | refine Rdr.drew ?_ | refine Rdr.drewN ?_ _) | omega)); done)); rintro e wz ⟨rfl, hz⟩; subst wz))
 refine ⟨rfl, rfl, ?_⟩
 (repeat' (first | with_reducible (first | exact Bar.refl _ _ | refine Bar.setNew ?_ ?_ _ | refine Bar.row ?_ ?_ _ | refine Bar.alloc ?_ _ | refine Bar.drew ?_ | refine Bar.drewN ?_ _ | refine Bar.trans ?_ (Hid.out (by assumption))) | (simp; done) | (simp; omega) | omega))
theorem single_open_ok (R : Nat) (l : List Tok) (w : World) (h : Rdr w R l) (he : Ended l) (l1 : List Tok) (hl1 : l.tail = l1) (hk : (hd l).kind = 4) (hm : atB l [40] = true) (h2 : Hd) (k : Fo) (r r3 : List Tok) (hr3 : r.tail = r3) (her : Ended r) (HG : ∀ W : World, Rdr W R l1 → Calls Tryz.prog 38 #[.pointer (some ⟨R, 0, none⟩), .int .i64 1] W (Told R W (.ok h2 k r))) (hz : atB r [41] = true) :
    Calls Tryz.prog 67 #[.pointer (some ⟨R, 0, none⟩)] w (Told R w (.ok h2 k r3)) := by
  have _ := he
  have HR := hide h
  obtain ⟨g0, o0, m0, cap0, kc0, kl0, kg0, kk0⟩ : ∃ g o n cap, w.cell? ⟨R, 0, none⟩ = some (.slice (some ⟨g, o, none⟩) n cap) ∧ 0 < n ∧ g < w.heap.size ∧ w.cell? ⟨g, o, none⟩ = some (.int .i64 (hd l).kind) := by
    obtain ⟨hR, hf, hne, g, o, cap, hc, hc1, hc2, hg, ht⟩ := h
    exact ⟨g, o, _, cap, hc, List.length_pos_iff.2 hne, Nat.lt_trans hg hR, ht 0 _ (hd_at hne) 0 (by omega)⟩
  have hRs := h.1
  have hm' : atB l [45] = false := atB_two hm (by decide)
  have e1 : Ended l1 := hl1 ▸ ended_at he hm
  have n1 := ended_ne e1
  have HA : Hid (∀ W : World, Rdr W R (l) → Calls Tryz.prog 102 #[.pointer (some ⟨R, 0, none⟩), .string ⟨#[45]⟩] W fun e w' => e = .returned (.bool false) ∧ w' = W) := fun W hW => by
    have := at_any R _ ⟨#[45]⟩ W hW
    rw [show atB (l) (⟨#[45]⟩ : ByteArray).data.toList = false from hm'] at this
    exact this
  have HO : Hid (∀ W : World, Rdr W R l → Calls Tryz.prog 103 #[.pointer (some ⟨R, 0, none⟩), .string ⟨#[40]⟩] W fun e w' => e = .returned (.tuple #[]) ∧ Rdr w' R l1 ∧ Bar R W w') := fun W hW => by
    have := pass_yes R _ ⟨#[40]⟩ W hW (by rw [hl1]; exact n1) hm
    rw [hl1] at this
    exact this
  have q1 : ((hd l).kind == 1) = false := by simp; omega
  have q2 : ((hd l).kind == 2) = false := by simp; omega
  have q3 : ((hd l).kind == 3) = false := by simp; omega
  have HGi : Hid (∀ W : World, Rdr W R l1 → Calls Tryz.prog 38 #[.pointer (some ⟨R, 0, none⟩), .int .i64 1] W fun e w' => ∃ a n cap, e = .returned (.agg (hdC h2 (.slice a n cap)).toArray) ∧ Kv w' (New W w') (.slice a n cap) k ∧ Rdr w' R r ∧ Bar R W w' ∧ Ended r) := HG
  have e3 : Ended r3 := hr3 ▸ ended_at her hz
  have n3 := ended_ne e3
  have HC : Hid (∀ W : World, Rdr W R r → Calls Tryz.prog 103 #[.pointer (some ⟨R, 0, none⟩), .string ⟨#[41]⟩] W fun e w' => e = .returned (.tuple #[]) ∧ Rdr w' R r3 ∧ Bar R W w') := fun W hW => by
    have := pass_yes R _ ⟨#[41]⟩ W hW (by rw [hr3]; exact n3) hz
    rw [hr3] at this
    exact this
  have hns := newStore
  clear h he hk hm hm' hl1 n1 e1 HG hz hr3 her n3
  generalize hd l = T at *
  go_enter Tryz.func67, Tryz.ntmps67
  go_wp2_with (first | (with_reducible refine wpl_id ?_; refine wpl_load rfl _ rfl _ rfl (by ((repeat' (first | with_reducible (first | exact Hid.out (by assumption) | apply Box.set | exact Box.new _ _ | apply Box.other | apply Box.alloc | apply Box.drew | apply Box.drewN) | omega)); done)) ?_) | (go_at_call 102; refine (HA.out _ ?_).mono ?_; (focus ((repeat' (first | with_reducible (first | exact Hid.out (by assumption) | refine Rdr.set ?_ ?_ _ _ | refine Rdr.row ?_ ?_ _ | refine Rdr.alloc ?_ _ | refine Rdr.drew ?_ | refine Rdr.drewN ?_ _) | omega)); done)); rintro e wz ⟨rfl, hz⟩; subst wz) | (go_at_call_of 103 [Value.pointer (some ⟨R, 0, none⟩), Value.string ⟨#[40]⟩]; refine (HO.out _ ?_).mono ?_; (focus ((repeat' (first | with_reducible (first | exact Hid.out (by assumption) | refine Rdr.set ?_ ?_ _ _ | refine Rdr.row ?_ ?_ _ | refine Rdr.alloc ?_ _ | refine Rdr.drew ?_ | refine Rdr.drewN ?_ _) | omega)); done)); rintro e w1 ⟨rfl, hr1, hb1⟩; have HR1 := hide hr1; have HB1 := hide hb1; have HX1 := hide (Box.bar (Box.new w (hdC zh (.slice none 0 0))) hb1 (by omega)); have z1 : w.heap.size < w1.heap.size := (by have := hb1.size; simp at this; omega); obtain ⟨ra1, rb1, rc1⟩ := HX1.out.rules rfl; clear hr1 hb1) | (go_at_call 38; refine (HGi.out _ ?_).mono ?_; (focus ((repeat' (first | with_reducible (first | exact Hid.out (by assumption) | refine Rdr.set ?_ ?_ _ _ | refine Rdr.row ?_ ?_ _ | refine Rdr.alloc ?_ _ | refine Rdr.drew ?_ | refine Rdr.drewN ?_ _) | omega)); done)); rintro e w2 ⟨a2, n2, cap2, rfl, hk2, hr2, hb2, he2⟩; have HK2 := hide hk2; have HR2 := hide hr2; have HB2 := hide hb2; have HE2 := hide he2; have HX2 := hide (HX1.out.bar hb2 (by omega)); have z2 := hb2.size; clear hk2 hr2 hb2 he2) | (go_at_call_of 103 [Value.pointer (some ⟨R, 0, none⟩), Value.string ⟨#[41]⟩]; refine (HC.out _ ?_).mono ?_; (focus ((repeat' (first | with_reducible (first | exact Hid.out (by assumption) | refine Rdr.set ?_ ?_ _ _ | refine Rdr.row ?_ ?_ _ | refine Rdr.alloc ?_ _ | refine Rdr.drew ?_ | refine Rdr.drewN ?_ _) | omega)); done)); rintro e w3 ⟨rfl, hr3, hb3⟩; have HR3 := hide hr3; have HB3 := hide hb3; have HX3 := hide ((HX2.out.alloc _).bar hb3 (by omega)); have HY3 := hide ((Box.new w2 (hdC h2 (.slice a2 n2 cap2))).bar hb3 (by omega)); have z3 : w2.heap.size < w3.heap.size := (by have := hb3.size; simp at this; omega); obtain ⟨ra3, rb3, rc3⟩ := HX3.out.rules rfl; clear hr3 hb3))
  refine bodyPost_ret (Box.ret rfl (HX3.out.set _) rfl) rfl ?_
  refine ⟨_, _, _, rfl, kv_to HK2.out (fun b hb => ?_), ?_, ?_, e3⟩
  · have q1 := hb.1
    have q2 := hb.2
    refine ⟨⟨by omega, by rw [setRow_size]; omega⟩, ?_⟩
    rw [setRow_heap _ _ _ _ (by omega), HB3.out.block b (by simp; omega) (by omega), Below.heap_alloc _ _ _ q2]
  · (repeat' (first | with_reducible (first | exact Hid.out (by assumption) | refine Rdr.set ?_ ?_ _ _ | refine Rdr.row ?_ ?_ _ | refine Rdr.alloc ?_ _ | refine Rdr.drew ?_ | refine Rdr.drewN ?_ _) | omega))
  · (repeat' (first | with_reducible (first | exact Bar.refl _ _ | refine Bar.setNew ?_ ?_ _ | refine Bar.row ?_ ?_ _ | refine Bar.alloc ?_ _ | refine Bar.drew ?_ | refine Bar.drewN ?_ _ | refine Bar.trans ?_ (Hid.out (by assumption))) | (simp; done) | (simp; omega) | omega))
theorem single_none (R : Nat) (l : List Tok) (w : World) (h : Rdr w R l) (he : Ended l) (h1 : (hd l).kind ≠ 1) (h2 : (hd l).kind ≠ 2) (h3 : (hd l).kind ≠ 3) (hm : atB l [45] = false) (ho : atB l [40] = false) :
  Calls Tryz.prog 67 #[.pointer (some ⟨R, 0, none⟩)] w (Told R w (.bad l)) := by
 have _ := he
 have HR := hide h
 obtain ⟨g0, o0, m0, cap0, kc0, kl0, kg0, kk0⟩ : ∃ g o n cap, w.cell? ⟨R, 0, none⟩ = some (.slice (some ⟨g, o, none⟩) n cap) ∧ 0 < n ∧ g < w.heap.size ∧ w.cell? ⟨g, o, none⟩ = some (.int .i64 (hd l).kind) := by
  obtain ⟨hR, hf, hne, g, o, cap, hc, hc1, hc2, hg, ht⟩ := h
  exact ⟨g, o, _, cap, hc, List.length_pos_iff.2 hne, Nat.lt_trans hg hR, ht 0 _ (hd_at hne) 0 (by omega)⟩
 have hRs := h.1
 have HA : Hid (∀ W : World, Rdr W R (l) → Calls Tryz.prog 102 #[.pointer (some ⟨R, 0, none⟩), .string ⟨#[45]⟩] W fun e w' => e = .returned (.bool false) ∧ w' = W) := fun W hW => by
  have := at_any R _ ⟨#[45]⟩ W hW
  rw [show atB (l) (⟨#[45]⟩ : ByteArray).data.toList = false from hm] at this
  exact this
 have HC : Hid (∀ W : World, Rdr W R (l) → Calls Tryz.prog 103 #[.pointer (some ⟨R, 0, none⟩), .string ⟨#[40]⟩] W fun e w' => e = .panicked [{ v := .iface 82 (.agg #[.int .i64 (hd (l)).pos, .int .i64 5]), recovered := false }] ∧ w' = W) := fun W hW => pass_no R _ ⟨#[40]⟩ W hW ho
 have q1 : ((hd l).kind == 1) = false := by simp; omega
 have q2 : ((hd l).kind == 2) = false := by simp; omega
 have q3 : ((hd l).kind == 3) = false := by simp; omega
 clear h he h1 h2 h3 hm ho
 go_enter Tryz.func67, Tryz.ntmps67
 go_wp2_with (first | (go_at_call 102; refine (HA.out _ ?_).mono ?_; (focus ((repeat' (first | with_reducible (first | exact Hid.out (by assumption) | refine Rdr.set ?_ ?_ _ _ | refine Rdr.row ?_ ?_ _ | refine Rdr.alloc ?_ _ | refine Rdr.drew ?_ | refine Rdr.drewN ?_ _) | omega)); done)); rintro e wz ⟨rfl, hz⟩; subst wz) | (go_at_call 103; refine (HC.out _ ?_).mono ?_; (focus ((repeat' (first | with_reducible (first | exact Hid.out (by assumption) | refine Rdr.set ?_ ?_ _ _ | refine Rdr.row ?_ ?_ _ | refine Rdr.alloc ?_ _ | refine Rdr.drew ?_ | refine Rdr.drewN ?_ _) | omega)); done)); rintro e wz ⟨rfl, hz⟩; subst wz))
 refine ⟨rfl, rfl, ?_⟩
 (repeat' (first | with_reducible (first | exact Bar.refl _ _ | refine Bar.setNew ?_ ?_ _ | refine Bar.row ?_ ?_ _ | refine Bar.alloc ?_ _ | refine Bar.drew ?_ | refine Bar.drewN ?_ _ | refine Bar.trans ?_ (Hid.out (by assumption))) | (simp; done) | (simp; omega) | omega))
theorem reader_all (R : Nat) : ∀ (n : Nat), n ≤ 2000 →
    (∀ (l : List Tok) (w : World), l.length ≤ n → Ended l → Rdr w R l → Calls Tryz.prog 67 #[.pointer (some ⟨R, 0, none⟩)] w (Told R w (rd .single l))) ∧
    (∀ (m : Nat) (l : List Tok) (w : World), l.length ≤ n → 1 ≤ m → m ≤ 5 → Ended l → Rdr w R l → Calls Tryz.prog 38 #[.pointer (some ⟨R, 0, none⟩), .int .i64 (m : Int)] w (Told R w (rd (.form m) l))) := by
  intro n
  induction n with
  | zero =>
    intro _
    exact ⟨fun l w hl he _ => absurd (List.eq_nil_of_length_eq_zero (by omega)) (ended_ne he), fun m l w hl _ _ he _ => absurd (List.eq_nil_of_length_eq_zero (by omega)) (ended_ne he)⟩
  | succ n ih =>
    intro hn
    obtain ⟨ihs, ihf⟩ := ih (by omega)
    have hs : ∀ (l : List Tok) (w : World), l.length ≤ n + 1 → Ended l → Rdr w R l → Calls Tryz.prog 67 #[.pointer (some ⟨R, 0, none⟩)] w (Told R w (rd .single l)) := by
      intro l w hl he hr
      by_cases h1 : (hd l).kind = 1
      · rw [rd_value h1]; exact single_value R l w hr he _ rfl h1
      by_cases h2 : (hd l).kind = 2
      · have HG := fun W hW => cells_any R l W hW he h2
        cases e : rd .single l with
        | bad r => rw [e] at HG; exact single_cells_bad R l w hr he h2 r HG
        | ok a b r => rw [e] at HG; exact single_cells_ok R l w hr he h2 a b r HG
      by_cases h3 : (hd l).kind = 3
      · have HG := fun W hW => call_any R l W hW he h3 (fun l' W' hl' he' hr' => kids_any R l' W' hr' he' (by omega) (fun l2 W2 hl2 he2 hr2 => ihf 1 l2 W2 (by omega) (by omega) (by omega) he2 hr2))
        cases e : rd .single l with
        | bad r => rw [e] at HG; exact single_call_bad R l w hr he h3 r HG
        | ok a b r => rw [e] at HG; exact single_call_ok R l w hr he h3 a b r HG
      by_cases hm : atB l [45] = true
      · have ht := tail_lt hm
        have h4 := (atB_kind hm).1
        have HG := fun W hW => ihs l.tail W (by omega) (ended_at he hm) hW
        rw [rd_minus hm]
        cases e : rd .single l.tail with
        | bad r => rw [e] at HG; exact single_minus_bad R l w hr he _ rfl h4 hm r HG
        | ok a b r => rw [e] at HG; exact single_minus_ok R l w hr he _ rfl h4 hm a b r HG
      by_cases ho : atB l [40] = true
      · have ht := tail_lt ho
        have h4 := (atB_kind ho).1
        have HG := fun W hW => ihf 1 l.tail W (by omega) (by omega) (by omega) (ended_at he ho) hW
        rw [rd_open ho]
        cases e : rd (.form 1) l.tail with
        | bad r => rw [e] at HG; exact single_open_bad R l w hr he _ rfl h4 ho r HG
        | ok a b r =>
          rw [e] at HG
          have er := rd_ended (c := .form 1) (by simp [fine]) (ended_at he ho) e
          simp only [Rs.on]
          by_cases hz : atB r [41] = true
          · rw [if_pos hz]; exact single_open_ok R l w hr he _ rfl h4 ho a b r _ rfl er HG hz
          · rw [if_neg hz]; exact single_open_no R l w hr he _ rfl h4 ho a b r HG (by simpa using hz)
      have hm' : atB l [45] = false := by simpa using hm
      have ho' : atB l [40] = false := by simpa using ho
      rw [rd_none h1 h2 h3 hm' ho']
      exact single_none R l w hr he h1 h2 h3 hm' ho'
    refine ⟨hs, fun m l w hl hm1 hm5 he hr => ?_⟩
    have HS := fun W hW => hs l W hl he hW
    rw [rd_form m hm1]
    cases e : rd .single l with
    | bad r => rw [e] at HS; exact formula_bad R m l r w hr HS
    | ok a b r =>
      rw [e] at HS
      have hr1 := rd_len (c := .single) trivial e
      simp only [takes] at hr1
      exact formula_ok R m hm1 l r a b w hr HS (fun m' l' W hl' h1 h5 he' hr' => ihf m' l' W (by omega) h1 h5 he' hr')
def EnvE (w : World) : Prop := w.cell? ⟨0, 0, none⟩ = some (.iface 145 (.agg #[.pointer (some ⟨12, 84, none⟩)]))
theorem EnvE.lt {w : World} (h : EnvE w) : 0 < w.heap.size := by
  unfold EnvE at h
  rcases Nat.lt_or_ge 0 w.heap.size with h' | h'
  · exact h'
  · simp [World.cell?, Array.getElem?_eq_none h'] at h
theorem EnvE.below {w w' : World} (h : EnvE w) (hb : Below w.heap.size w w') : EnvE w' := by
 unfold EnvE
 rw [hb.cell (p := ⟨0, 0, none⟩) h.lt]; exact h
theorem as_error (v : Value) (x : TypeId) (w : World) : (Instr.typeAssert (.iface 82 v) x 84 true).run Tryz.prog w = .ok (.tuple #[.iface 82 v, .bool true]) w := run_typeAssert_hasB Tryz.underlying84 (by kernel_rfl) v x w
theorem zero_build (w : World) : (Instr.build 34 #[]).run Tryz.prog w = .ok (.agg (hdC zh (.slice none 0 0)).toArray) w := run_build w _ _ _ (by kernel_rfl)
theorem exec_zero {o : Oper} {a : Act} (ho : o.op = .build 34 #[]) (w : World) : (execOp a.eval o).run Tryz.prog w = .ok (.value (.agg (hdC zh (.slice none 0 0)).toArray)) w := by
 have hq : ((#[] : Array (Nat × Operand)).map fun (i, x) => (i, a.eval x)) = #[] := by simp
 unfold execOp
 simp only [ho, hq, Sem.run_bind, zero_build, Result.andThen_ok]
 rfl
theorem Box.ret3 {fn : Func} {p t u : Tmp} (hf : fn.results = #[.cell p 34, .tmp t, .tmp u]) {tmps : Array Value} {w : World} {b : Nat} {h : Hd} {v : Value} (k : Box w b (hdC h v)) (hp : tmps.getD p undef = .pointer (some ⟨b, 0, none⟩)) {x y : Value} (hx : tmps.getD t undef = x) (hy : tmps.getD u undef = y) :
  (results fn tmps).run Tryz.prog w = .ok (.tuple #[nodeV h v, x, y]) w := by
 have hp' : tmps[p]?.getD undef = .pointer (some ⟨b, 0, none⟩) := by simpa using hp
 have hx' : tmps[t]?.getD undef = x := by simpa using hx
 have hy' : tmps[u]?.getD undef = y := by simpa using hy
 simp [results, hf, hp', hx', hy', asAddr, run_loadVar_row w b 34 34 (hdC h v).toArray (0, 0) _ k Tryz.underlying34 rfl (by rw [sizeNode]; rfl)]
 rfl
theorem Bar.up {R : Nat} {w w' : World} (h : Bar R w w') (hR : w.heap.size ≤ R) : Below w.heap.size w w' := ⟨h.os, h.tape, h.output, h.size, fun k hk => h.block k hk (by omega)⟩
theorem cell_row_other (w : World) (g b o : Nat) (cs : Array Value) (h : b ≠ g) : (w.setRow g cs).cell? ⟨b, o, none⟩ = w.cell? ⟨b, o, none⟩ := by
 simp only [World.cell?, setRow_heap _ _ _ _ h]
theorem refused_any (x y : Int) (w : World) (he : EnvE w) :
  Calls Tryz.prog 23 #[.iface 82 (.agg #[.int .i64 x, .int .i64 y])] w fun e w' => e = .returned (.tuple #[nodeV zh (.slice none 0 0), .int .i64 x, .int .i64 y]) ∧ Below w.heap.size w w' := by
 have hlt := he.lt
 have HA : Hid (∀ W : World, EnvE W → Ref2 W (w.heap.size + 1) 0 0 → Calls Tryz.prog 36 #[.iface 82 (.agg #[.int .i64 x, .int .i64 y]), .iface 87 (.pointer (some ⟨w.heap.size + 1, 0, none⟩))] W fun ev w' => ev = .returned (.bool true) ∧ Ref2 w' (w.heap.size + 1) x y ∧ Bar (w.heap.size + 1) W w') := fun W hW hR => as_hit _ x y 0 0 W hW hR
 have HE := hide he
 clear he
 go_enter Tryz.func23, Tryz.ntmps23
 have hta := as_error
 have HRf : Hid (∀ o : Obj, Ref2 ((w.alloc o).alloc (.cells #[.int .i64 0, .int .i64 0] 82)) (w.heap.size + 1) 0 0) := fun o => by
  have := heap_alloc_new (w.alloc o) (.cells #[.int .i64 0, .int .i64 0] 82)
  rw [World.size_alloc] at this
  exact this
 go_wp2_with (first | (go_at_call 36; refine (HA.out _ (HE.out.below (((Below.refl _ _).alloc (Nat.le_refl _) _).alloc (by simp) _)) (HRf.out _)).mono ?_; rintro e w1 ⟨rfl, hr1, hb1⟩; have HR1 := hide hr1; have HB1 := hide hb1; clear hr1 hb1))
 have HX1 : Hid (Box w1 w.heap.size (hdC zh (.slice none 0 0))) := Box.bar ((Box.new w (hdC zh (.slice none 0 0))).alloc _) HB1.out (by omega)
 have c0 : w1.cell? ⟨w.heap.size + 1, 0, none⟩ = some (.int .i64 x) := by rw [cell_of_row w1 _ 0 _ _ _ HR1.out]; rfl
 have c1 : w1.cell? ⟨w.heap.size + 1, 1, none⟩ = some (.int .i64 y) := by rw [cell_of_row w1 _ 1 _ _ _ HR1.out]; rfl
 refine wp_region_held_drew (S := fun w' => w'.cell? ⟨w.heap.size + 1, 0, none⟩ = some (.int .i64 x) ∧ w'.cell? ⟨w.heap.size + 1, 1, none⟩ = some (.int .i64 y)) (by kernel_rfl) ⟨c0, c1⟩ (fun hHeld => ?_)
 refine takeE (i := 0) (some 19) rfl rfl (by kernel_rfl) (v := .agg (hdC zh (.slice none 0 0)).toArray) rfl (fun w' _ => exec_zero rfl w') (by assumption) ?_
 try simp only [Act.put, pA, pB, pC]
 (refine takeE (i := 1) (some 20) rfl rfl (by kernel_rfl) (v := ?_) rfl ?_ (by assumption) ?_; rotate_left; (focus (intro w hSw; (try dsimp only at hSw); first | (go_simp; done) | (go_simp; with_reducible rfl))); try simp only [Act.put, pA, pB, pC]); (refine takeE (i := 2) (some 21) rfl rfl (by kernel_rfl) (v := ?_) rfl ?_ (by assumption) ?_; rotate_left; (focus (intro w hSw; (try dsimp only at hSw); first | (go_simp; done) | (go_simp; with_reducible rfl))); try simp only [Act.put, pA, pB, pC]); (refine takeE (i := 3) (some 22) rfl rfl (by kernel_rfl) (v := ?_) rfl ?_ (by assumption) ?_; rotate_left; (focus (intro w hSw; (try dsimp only at hSw); first | (go_simp; done) | (go_simp; with_reducible rfl))); try simp only [Act.put, pA, pB, pC]); (refine takeE (i := 4) (some 23) rfl rfl (by kernel_rfl) (v := ?_) rfl ?_ (by assumption) ?_; rotate_left; (focus (intro w hSw; (try dsimp only at hSw); first | (go_simp; done) | (go_simp; with_reducible rfl))); try simp only [Act.put, pA, pB, pC])
 refine wpAnyH_ready (rs := [5]) (by kernel_rfl) (by simp) ?_
 refine readyP (o := _) rfl rfl (fun K hK => ?_) AllReadyH.nil
 refine wp_storeN _ _ rfl _ rfl rfl HX1.out.drew rfl ?_
 refine hK.out _ _ ⟨(cell_row_other _ _ _ _ _ (by omega)).trans hHeld.1, (cell_row_other _ _ _ _ _ (by omega)).trans hHeld.2⟩ (fun hHeld => ?_)
 clear hK K
 simp only [List.getElem_toArray, List.getElem_cons_succ, List.getElem_cons_zero, Act.put]
 (refine takeE (i := 6) (some 3) rfl rfl (by kernel_rfl) (v := ?_) rfl ?_ (by assumption) ?_; rotate_left; (focus (intro w hSw; (try dsimp only at hSw); first | (go_simp; done) | (go_simp; with_reducible rfl))); try simp only [Act.put, pA, pB, pC]); (refine takeE (i := 7) (some 4) rfl rfl (by kernel_rfl) (v := ?_) rfl ?_ (by assumption) ?_; rotate_left; (focus (intro w hSw; (try dsimp only at hSw); first | (go_simp; done) | (go_simp; with_reducible rfl))); try simp only [Act.put, pA, pB, pC])
 refine wpAnyH_done (by kernel_rfl) ?_ _
 go_wp2
 refine bodyPost_ret (Box.ret3 rfl (HX1.out.drew.set _) rfl rfl rfl) rfl ?_
 refine ⟨rfl, ?_⟩
 exact Bar.up (((((Bar.refl (w.heap.size + 1) w).alloc _).alloc _).trans HB1.out).drew.row (Nat.le_refl _) _) (Nat.le_succ _)
def ToldP (w : World) (r : Pr) (e : Ending) (w' : World) : Prop :=
 match r with
 | .ok h k => ∃ a n cap, e = .returned (nodeV h (.slice a n cap)) ∧ Kv w' (New w w') (.slice a n cap) k ∧ Below w.heap.size w w'
 | .no x y => e = .panicked [{ v := .iface 82 (.agg #[.int .i64 x, .int .i64 y]), recovered := false }] ∧ Below w.heap.size w w'
theorem below_new {w w1 : World} {o : Obj} (h : Below (w.alloc o).heap.size (w.alloc o) w1) : Below w.heap.size w w1 := by
 have h0 : Below w.heap.size w (w.alloc o) := (Below.refl _ _).alloc (Nat.le_refl _) o
 exact h0.trans (h.mono (by simp))
theorem read_no (s : ByteArray) (w : World) (he : EnvL w) (hs : s.size ≤ maxLen) (h0 : (scanR s.data.toList).2.2 ≠ 0) :
  Calls Tryz.prog 24 #[.string s] w (ToldP w (parseN s.data.toList)) := by
 have HS : Hid (∀ o : Obj, Calls Tryz.prog 37 #[.string s] (w.alloc o) fun e w' => ∃ v, e = .returned (.tuple #[v, .int .i64 (scanR s.data.toList).2.1, .int .i64 (scanR s.data.toList).2.2]) ∧ RowT (w.alloc o).heap.size w' v (scanR s.data.toList).1 ∧ Below (w.alloc o).heap.size (w.alloc o) w') := fun o => scan_any s _ (he.below ((Below.refl _ _).alloc (Nat.le_refl _) o)) hs
 have HN : Hid (parseN s.data.toList = .no (scanR s.data.toList).2.1 (scanR s.data.toList).2.2) := by show parseN _ = _; unfold parseN; rw [if_pos h0]
 generalize scanR s.data.toList = X at *
 obtain ⟨ts, x, y⟩ := X
 simp only at h0
 rw [HN.out]
 clear HN he
 go_enter Tryz.func24, Tryz.ntmps24
 go_wp2_with (first | (go_at_call 37; refine (HS.out _).mono ?_; rintro e w1 ⟨v, rfl, hr1, hb1⟩; have HB1 := hide (below_new hb1); clear hr1 hb1))
 exact ⟨rfl, rfl, HB1.out⟩
theorem rdr_new {w : World} {v : Value} {ts : List Tok} {n₀ : Nat} (h : RowT n₀ w v ts) (hn : ts ≠ []) : ∃ g o cap, v = .slice (some ⟨g, o, none⟩) ts.length cap ∧ Rdr (w.alloc (.cells #[.slice (some ⟨g, o, none⟩) ts.length cap] 91)) w.heap.size ts := by
  rcases h.rd with ⟨_, e⟩ | ⟨g, o, cap, rfl, h2, h3, h4, h5⟩
  · exact absurd e hn
  · have hc : (w.alloc (.cells #[.slice (some ⟨g, o, none⟩) ts.length cap] 91)).heap[w.heap.size]? = some (.cells #[.slice (some ⟨g, o, none⟩) ts.length cap] 91) := heap_alloc_new _ _
    refine ⟨g, o, cap, rfl, by simp, ?_, hn, g, o, cap, ?_, h2, h3, h4, fun i t hi j hj => ?_⟩
    · unfold World.frozen?
      simp only [hc]
      rfl
    · rw [cell_of_row _ _ 0 _ _ _ hc]; rfl
    · rw [← h5 i t hi j hj]
      exact ((Below.refl w.heap.size w).alloc (Nat.le_refl _) _).cell (p := ⟨g, o + 12 * i + j, none⟩) h4
theorem cell_beside {w : World} {b o : Nat} {v : Value} (h : w.cell? ⟨b, o, none⟩ = some v) (hb : b < w.heap.size) (x : Obj) (cs : Array Value) : ((w.alloc x).setRow w.heap.size cs).cell? ⟨b, o, none⟩ = some v := by
 rw [cell_row_other _ _ _ _ _ (by omega), ← h]
 exact ((Below.refl w.heap.size w).alloc (Nat.le_refl _) _).cell (p := ⟨b, o, none⟩) hb
theorem bar_below {w w1 W : World} (h1 : Below w.heap.size w w1) (h2 : Bar w1.heap.size w1 W) : Below w.heap.size w W := h1.trans ((h2.below (Nat.le_refl _)).mono h1.size)
theorem below_row {w : World} (x : Obj) (cs : Array Value) : Below w.heap.size w ((w.alloc x).setRow w.heap.size cs) :=
 ((Bar.refl w.heap.size w).alloc x |>.row (Nat.le_refl _) cs).below (Nat.le_refl _)
theorem read_bad (s : ByteArray) (w : World) (he : EnvL w) (hs : s.size ≤ maxLen) (h0 : (scanR s.data.toList).2.2 = 0) (l : List Tok) (hl : rd (.form 1) (scanR s.data.toList).1 = .bad l) :
  Calls Tryz.prog 24 #[.string s] w (ToldP w (parseN s.data.toList)) := by
 have HS : Hid (∀ o : Obj, Calls Tryz.prog 37 #[.string s] (w.alloc o) fun e w' => ∃ v, e = .returned (.tuple #[v, .int .i64 (scanR s.data.toList).2.1, .int .i64 (scanR s.data.toList).2.2]) ∧ RowT (w.alloc o).heap.size w' v (scanR s.data.toList).1 ∧ Below (w.alloc o).heap.size (w.alloc o) w') := fun o => scan_any s _ (he.below ((Below.refl _ _).alloc (Nat.le_refl _) o)) hs
 have HN : Hid (parseN s.data.toList = .no (hd l).pos 5) := by show parseN _ = _; unfold parseN; rw [if_neg (by simp [h0]), hl]; rfl
 have HE := hide (scan_ended h0)
 have HL := hide (scan_len h0)
 generalize scanR s.data.toList = X at *
 obtain ⟨ts, x, y⟩ := X
 simp only at h0 hl HE HL
 subst h0
 have HF : Hid (∀ (R : Nat) (W : World), Rdr W R ts → Calls Tryz.prog 38 #[.pointer (some ⟨R, 0, none⟩), .int .i64 1] W fun e w' => e = .panicked [{ v := .iface 82 (.agg #[.int .i64 (hd l).pos, .int .i64 5]), recovered := false }] ∧ Bar R W w') := fun R W hR => by
  have := (reader_all R 2000 (Nat.le_refl _)).2 1 ts W (by have := HL.out; omega) (by omega) (by omega) HE.out hR
  rw [hl] at this
  exact this
 rw [HN.out]
 have HZ := hide (ended_ne HE.out)
 clear HN he hl
 go_enter Tryz.func24, Tryz.ntmps24
 go_wp2_with (first | (go_at_call 37; refine (HS.out _).mono ?_; rintro e w1 ⟨v, rfl, hr1, hb1⟩; have HB1 := hide (below_new hb1); obtain ⟨g1, o1, p1, rfl, hq1⟩ := rdr_new hr1 HZ.out; have HR1 := hide hq1; clear hq1; clear hr1 hb1) | (go_at_call 38; refine (HF.out _ _ HR1.out).mono ?_; rintro e w2 ⟨rfl, hb2⟩; have HB2 := hide hb2; clear hb2))
 exact ⟨rfl, rfl, HB1.out.trans ((Bar.below (((Bar.refl w1.heap.size w1).alloc _).trans HB2.out) (Nat.le_refl _)).mono HB1.out.size)⟩
theorem read_more (s : ByteArray) (w : World) (he : EnvL w) (hs : s.size ≤ maxLen) (h0 : (scanR s.data.toList).2.2 = 0) (h : Hd) (k : Fo) (l : List Tok) (hl : rd (.form 1) (scanR s.data.toList).1 = .ok h k l) (hk0 : (hd l).kind ≠ 0) :
  Calls Tryz.prog 24 #[.string s] w (ToldP w (parseN s.data.toList)) := by
 have HS : Hid (∀ o : Obj, Calls Tryz.prog 37 #[.string s] (w.alloc o) fun e w' => ∃ v, e = .returned (.tuple #[v, .int .i64 (scanR s.data.toList).2.1, .int .i64 (scanR s.data.toList).2.2]) ∧ RowT (w.alloc o).heap.size w' v (scanR s.data.toList).1 ∧ Below (w.alloc o).heap.size (w.alloc o) w') := fun o => scan_any s _ (he.below ((Below.refl _ _).alloc (Nat.le_refl _) o)) hs
 have HN : Hid (parseN s.data.toList = .no (hd l).pos 5) := by show parseN _ = _; unfold parseN; rw [if_neg (by simp [h0]), hl]; show endR _ = _; unfold endR; simp [hk0]
 have HE := hide (scan_ended h0)
 have HL := hide (scan_len h0)
 have HQ := hide (read_right h0 hl)
 generalize scanR s.data.toList = X at *
 obtain ⟨ts, x, y⟩ := X
 simp only at h0 hl HE HL
 subst h0
 have HF : Hid (∀ (R : Nat) (W : World), Rdr W R ts → Calls Tryz.prog 38 #[.pointer (some ⟨R, 0, none⟩), .int .i64 1] W fun e w' => ∃ a n cap, e = .returned (nodeV h (.slice a n cap)) ∧ Kv w' (New W w') (.slice a n cap) k ∧ Rdr w' R l ∧ Bar R W w' ∧ Ended l) := fun R W hR => by
  have := (reader_all R 2000 (Nat.le_refl _)).2 1 ts W (by have := HL.out; omega) (by omega) (by omega) HE.out hR
  rw [hl] at this
  exact this
 rw [HN.out]
 have HZ := hide (ended_ne HE.out)
 clear HN he hl
 go_enter Tryz.func24, Tryz.ntmps24
 go_wp2_with (first | (go_at_call 37; refine (HS.out _).mono ?_; rintro e w1 ⟨v, rfl, hr1, hb1⟩; have HB1 := hide (below_new hb1); have HX1 := hide (Box.below (Box.new w (hdC zh (.slice none 0 0))) hb1); obtain ⟨g1, o1, p1, rfl, hq1⟩ := rdr_new hr1 HZ.out; have HR1 := hide hq1; clear hq1; clear hr1 hb1) | (go_at_call 38; refine (HF.out _ _ HR1.out).mono ?_; rintro e w2 ⟨a, n, cap, rfl, hk2, hr2, hb2, he2⟩; have HK2 := hide hk2; have HR2 := hide hr2; have HB2 := hide hb2; obtain ⟨hRz, hRf, hne, g, o, cp, hc, hc1, hc2, hg, ht⟩ := hr2; have hl0 : 0 < l.length := List.length_pos_iff.2 hne; have h00 := ht 0 _ (hd_at hne) 0 (by omega); have h0k : w2.cell? ⟨g, o, none⟩ = some (.int .i64 (hd l).kind) := h00; have hcA := cell_beside hc hRz; have h0A := cell_beside h0k (Nat.lt_trans hg hRz); clear hk2 hb2 he2 ht h00) | (go_at_call 39; refine (giveUp_any _ l _ ?_).mono ?_; (focus ((repeat' (first | with_reducible (first | exact Hid.out (by assumption) | refine Rdr.set ?_ ?_ _ _ | refine Rdr.row ?_ ?_ _ | refine Rdr.alloc ?_ _ | refine Rdr.drew ?_ | refine Rdr.drewN ?_ _) | omega)); done)); rintro e w3 ⟨rfl, hw3⟩; subst w3) | (with_reducible refine wpl_id ?_; refine wpl_load rfl _ rfl _ rfl (by ((repeat' (first | with_reducible (first | exact Hid.out (by assumption) | apply Box.set | exact Box.new _ _ | apply Box.other | apply Box.alloc | apply Box.drew | apply Box.drewN) | omega)); done)) ?_) | (with_reducible refine wpl_id ?_; refine wpl_store rfl _ _ rfl _ rfl rfl (by ((repeat' (first | with_reducible (first | exact Hid.out (by assumption) | apply Box.set | exact Box.new _ _ | apply Box.other | apply Box.alloc | apply Box.drew | apply Box.drewN) | omega)); done)) rfl ?_))
 exact ⟨rfl, rfl, bar_below HB1.out ((((Bar.refl w1.heap.size w1).alloc _).trans HB2.out).alloc _ |>.row (Nat.le_of_lt hRz) _)⟩
theorem read_deep (s : ByteArray) (w : World) (he : EnvL w) (hs : s.size ≤ maxLen) (h0 : (scanR s.data.toList).2.2 = 0) (h : Hd) (k : Fo) (l : List Tok) (hl : rd (.form 1) (scanR s.data.toList).1 = .ok h k l) (hk0 : (hd l).kind = 0) (hd40 : 40 < k.deep + 1) :
  Calls Tryz.prog 24 #[.string s] w (ToldP w (parseN s.data.toList)) := by
 have HS : Hid (∀ o : Obj, Calls Tryz.prog 37 #[.string s] (w.alloc o) fun e w' => ∃ v, e = .returned (.tuple #[v, .int .i64 (scanR s.data.toList).2.1, .int .i64 (scanR s.data.toList).2.2]) ∧ RowT (w.alloc o).heap.size w' v (scanR s.data.toList).1 ∧ Below (w.alloc o).heap.size (w.alloc o) w') := fun o => scan_any s _ (he.below ((Below.refl _ _).alloc (Nat.le_refl _) o)) hs
 have HN : Hid (parseN s.data.toList = .no 0 6) := by show parseN _ = _; unfold parseN; rw [if_neg (by simp [h0]), hl]; show endR _ = _; unfold endR; simp [hk0, hd40]
 have HE := hide (scan_ended h0)
 have HL := hide (scan_len h0)
 have HQ := hide (read_right h0 hl)
 generalize scanR s.data.toList = X at *
 obtain ⟨ts, x, y⟩ := X
 simp only at h0 hl HE HL
 subst h0
 have HF : Hid (∀ (R : Nat) (W : World), Rdr W R ts → Calls Tryz.prog 38 #[.pointer (some ⟨R, 0, none⟩), .int .i64 1] W fun e w' => ∃ a n cap, e = .returned (nodeV h (.slice a n cap)) ∧ Kv w' (New W w') (.slice a n cap) k ∧ Rdr w' R l ∧ Bar R W w' ∧ Ended l) := fun R W hR => by
  have := (reader_all R 2000 (Nat.le_refl _)).2 1 ts W (by have := HL.out; omega) (by omega) (by omega) HE.out hR
  rw [hl] at this
  exact this
 have HC : Hid (∀ (D : Nat → Prop) (a : Option Addr) (n cap : Nat) (W : World), (∀ c, D c → c < W.heap.size) → Kv W D (.slice a n cap) k → Calls Tryz.prog 15 #[.agg (hdC h (.slice a n cap)).toArray] W fun e w' => e = .returned (.int .i64 6) ∧ Below W.heap.size W w') := fun D a n cap W hD hk => by
  have hr := HQ.out.1
  simp only [rightN, Bool.and_eq_true] at hr
  obtain ⟨s1, s2⟩ := alone_small hr.1
  have := check_node D h k a n cap W hD hk (by have := HQ.out.2; omega) s1 s2 (right_ok k hr.2)
  rw [check_right HQ.out.1, if_pos hd40] at this
  exact this
 rw [HN.out]
 have HZ := hide (ended_ne HE.out)
 clear HN he hl hd40
 go_enter Tryz.func24, Tryz.ntmps24
 go_wp2_with (first | (go_at_call 37; refine (HS.out _).mono ?_; rintro e w1 ⟨v, rfl, hr1, hb1⟩; have HB1 := hide (below_new hb1); have HX1 := hide (Box.below (Box.new w (hdC zh (.slice none 0 0))) hb1); obtain ⟨g1, o1, p1, rfl, hq1⟩ := rdr_new hr1 HZ.out; have HR1 := hide hq1; clear hq1; clear hr1 hb1) | (go_at_call 38; refine (HF.out _ _ HR1.out).mono ?_; rintro e w2 ⟨a, n, cap, rfl, hk2, hr2, hb2, he2⟩; have HK2 := hide hk2; have HR2 := hide hr2; have HB2 := hide hb2; obtain ⟨hRz, hRf, hne, g, o, cp, hc, hc1, hc2, hg, ht⟩ := hr2; have hl0 : 0 < l.length := List.length_pos_iff.2 hne; have h00 := ht 0 _ (hd_at hne) 0 (by omega); have h0k : w2.cell? ⟨g, o, none⟩ = some (.int .i64 (hd l).kind) := h00; have hcA := cell_beside hc hRz; have h0A := cell_beside h0k (Nat.lt_trans hg hRz); clear hk2 hb2 he2 ht h00) | (go_at_call 15; refine (HC.out (fun c => c < w2.heap.size) a n cap _ ?_ ?_).mono ?_; (focus (intro c hc'; exact Nat.lt_of_lt_of_le hc' (below_row _ _).size)); (focus (exact kv_to HK2.out (fun b hb => ⟨hb.2, (below_row _ _).block b hb.2⟩))); rintro e w3 ⟨rfl, hb3⟩; have HB3 := hide (bar_below (bar_below HB1.out ((((Bar.refl w1.heap.size w1).alloc _).trans HB2.out).alloc _ |>.row (Nat.le_of_lt hRz) _)) (Bar.of hb3)); have HX3 := hide (Box.below (Box.set (Box.new w2 (hdC zh (.slice none 0 0))) (hdC h (.slice a n cap))) hb3); have HY3 := hide (Box.below (Box.other (Box.alloc (Box.bar (Box.alloc HX1.out _) HB2.out (by have := HX1.out.lt; omega)) _) (by have := HX1.out.lt; omega) _) hb3); have HK3 := hide (kv_to HK2.out (D' := fun b => w.heap.size < b ∧ b < w3.heap.size) (fun b hb => ⟨⟨by have := HX1.out.lt; have := hb.1; simp at this; omega, Nat.lt_of_lt_of_le hb.2 (Nat.le_trans (below_row _ _).size hb3.size)⟩, (hb3.block b (Nat.lt_of_lt_of_le hb.2 (below_row _ _).size)).trans ((below_row _ _).block b hb.2)⟩)); clear hb3) | (with_reducible refine wpl_id ?_; refine wpl_load rfl _ rfl _ rfl (by ((repeat' (first | with_reducible (first | exact Hid.out (by assumption) | apply Box.set | exact Box.new _ _ | apply Box.other | apply Box.alloc | apply Box.drew | apply Box.drewN) | omega)); done)) ?_) | (with_reducible refine wpl_id ?_; refine wpl_store rfl _ _ rfl _ rfl rfl (by ((repeat' (first | with_reducible (first | exact Hid.out (by assumption) | apply Box.set | exact Box.new _ _ | apply Box.other | apply Box.alloc | apply Box.drew | apply Box.drewN) | omega)); done)) rfl ?_))
 exact ⟨rfl, rfl, HB3.out⟩
theorem read_ok (s : ByteArray) (w : World) (he : EnvL w) (hs : s.size ≤ maxLen) (h0 : (scanR s.data.toList).2.2 = 0) (h : Hd) (k : Fo) (l : List Tok) (hl : rd (.form 1) (scanR s.data.toList).1 = .ok h k l) (hk0 : (hd l).kind = 0) (hd40 : ¬ 40 < k.deep + 1) :
    Calls Tryz.prog 24 #[.string s] w (ToldP w (parseN s.data.toList)) := by
  have HS : Hid (∀ o : Obj, Calls Tryz.prog 37 #[.string s] (w.alloc o) fun e w' => ∃ v, e = .returned (.tuple #[v, .int .i64 (scanR s.data.toList).2.1, .int .i64 (scanR s.data.toList).2.2]) ∧ RowT (w.alloc o).heap.size w' v (scanR s.data.toList).1 ∧ Below (w.alloc o).heap.size (w.alloc o) w') := fun o => scan_any s _ (he.below ((Below.refl _ _).alloc (Nat.le_refl _) o)) hs
  have HN : Hid (parseN s.data.toList = .ok h k) := by show parseN _ = _; unfold parseN; rw [if_neg (by simp [h0]), hl]; show (if (hd l).kind ≠ 0 then _ else _) = _; rw [if_neg (by simp [hk0]), if_neg hd40]
  have HE := hide (scan_ended h0)
  have HL := hide (scan_len h0)
  have HQ := hide (read_right h0 hl)
  generalize scanR s.data.toList = X at *
  obtain ⟨ts, x, y⟩ := X
  simp only at h0 hl HE HL
  subst h0
  have HF : Hid (∀ (R : Nat) (W : World), Rdr W R ts → Calls Tryz.prog 38 #[.pointer (some ⟨R, 0, none⟩), .int .i64 1] W fun e w' => ∃ a n cap, e = .returned (nodeV h (.slice a n cap)) ∧ Kv w' (New W w') (.slice a n cap) k ∧ Rdr w' R l ∧ Bar R W w' ∧ Ended l) := fun R W hR => by
    have := (reader_all R 2000 (Nat.le_refl _)).2 1 ts W (by have := HL.out; omega) (by omega) (by omega) HE.out hR
    rw [hl] at this
    exact this
  have HC : Hid (∀ (D : Nat → Prop) (a : Option Addr) (n cap : Nat) (W : World), (∀ c, D c → c < W.heap.size) → Kv W D (.slice a n cap) k → Calls Tryz.prog 15 #[.agg (hdC h (.slice a n cap)).toArray] W fun e w' => e = .returned (.int .i64 0) ∧ Below W.heap.size W w') := fun D a n cap W hD hk => by
    have hr := HQ.out.1
    simp only [rightN, Bool.and_eq_true] at hr
    obtain ⟨s1, s2⟩ := alone_small hr.1
    have := check_node D h k a n cap W hD hk (by have := HQ.out.2; omega) s1 s2 (right_ok k hr.2)
    rw [check_right HQ.out.1, if_neg hd40] at this
    exact this
  rw [HN.out]
  have HZ := hide (ended_ne HE.out)
  clear HN he hl hd40
  go_enter Tryz.func24, Tryz.ntmps24
  go_wp2_with (first | (go_at_call 37; refine (HS.out _).mono ?_; rintro e w1 ⟨v, rfl, hr1, hb1⟩; have HB1 := hide (below_new hb1); have HX1 := hide (Box.below (Box.new w (hdC zh (.slice none 0 0))) hb1); obtain ⟨g1, o1, p1, rfl, hq1⟩ := rdr_new hr1 HZ.out; have HR1 := hide hq1; clear hq1; clear hr1 hb1) | (go_at_call 38; refine (HF.out _ _ HR1.out).mono ?_; rintro e w2 ⟨a, n, cap, rfl, hk2, hr2, hb2, he2⟩; have HK2 := hide hk2; have HR2 := hide hr2; have HB2 := hide hb2; obtain ⟨hRz, hRf, hne, g, o, cp, hc, hc1, hc2, hg, ht⟩ := hr2; have hl0 : 0 < l.length := List.length_pos_iff.2 hne; have h00 := ht 0 _ (hd_at hne) 0 (by omega); have h0k : w2.cell? ⟨g, o, none⟩ = some (.int .i64 (hd l).kind) := h00; have hcA := cell_beside hc hRz; have h0A := cell_beside h0k (Nat.lt_trans hg hRz); clear hk2 hb2 he2 ht h00) | (go_at_call 15; refine (HC.out (fun c => c < w2.heap.size) a n cap _ ?_ ?_).mono ?_; (focus (intro c hc'; exact Nat.lt_of_lt_of_le hc' (below_row _ _).size)); (focus (exact kv_to HK2.out (fun b hb => ⟨hb.2, (below_row _ _).block b hb.2⟩))); rintro e w3 ⟨rfl, hb3⟩; have HB3 := hide (bar_below (bar_below HB1.out ((((Bar.refl w1.heap.size w1).alloc _).trans HB2.out).alloc _ |>.row (Nat.le_of_lt hRz) _)) (Bar.of hb3)); have HX3 := hide (Box.below (Box.set (Box.new w2 (hdC zh (.slice none 0 0))) (hdC h (.slice a n cap))) hb3); have HY3 := hide (Box.below (Box.other (Box.alloc (Box.bar (Box.alloc HX1.out _) HB2.out (by have := HX1.out.lt; omega)) _) (by have := HX1.out.lt; omega) _) hb3); have HK3 := hide (kv_to HK2.out (D' := fun b => w.heap.size < b ∧ b < w3.heap.size) (fun b hb => ⟨⟨by have := HX1.out.lt; have := hb.1; simp at this; omega, Nat.lt_of_lt_of_le hb.2 (Nat.le_trans (below_row _ _).size hb3.size)⟩, (hb3.block b (Nat.lt_of_lt_of_le hb.2 (below_row _ _).size)).trans ((below_row _ _).block b hb.2)⟩)); clear hb3) | (with_reducible refine wpl_id ?_; refine wpl_load rfl _ rfl _ rfl (by ((repeat' (first | with_reducible (first | exact Hid.out (by assumption) | apply Box.set | exact Box.new _ _ | apply Box.other | apply Box.alloc | apply Box.drew | apply Box.drewN) | omega)); done)) ?_) | (with_reducible refine wpl_id ?_; refine wpl_store rfl _ _ rfl _ rfl rfl (by ((repeat' (first | with_reducible (first | exact Hid.out (by assumption) | apply Box.set | exact Box.new _ _ | apply Box.other | apply Box.alloc | apply Box.drew | apply Box.drewN) | omega)); done)) rfl ?_))
  refine bodyPost_ret (Box.ret rfl (HY3.out.set _) rfl) rfl ⟨a, n, cap, rfl, ?_, ?_⟩
  · exact kv_to HK3.out (fun b hb => ⟨⟨Nat.le_of_lt hb.1, by rw [setRow_size]; exact hb.2⟩, setRow_heap _ _ _ _ (Nat.ne_of_gt hb.1)⟩)
  · exact ((Bar.of (R := w.heap.size) HB3.out).row (Nat.le_refl _) _).up (Nat.le_refl _)
theorem read_any (s : ByteArray) (w : World) (he : EnvL w) (hs : s.size ≤ maxLen) : Calls Tryz.prog 24 #[.string s] w (ToldP w (parseN s.data.toList)) := by
  by_cases h0 : (scanR s.data.toList).2.2 = 0
  · cases hl : rd (.form 1) (scanR s.data.toList).1 with
    | bad l => exact read_bad s w he hs h0 l hl
    | ok h k l =>
      by_cases hk : (hd l).kind = 0
      · by_cases hd : 40 < k.deep + 1
        · exact read_deep s w he hs h0 h k l hl hk hd
        · exact read_ok s w he hs h0 h k l hl hk hd
      · exact read_more s w he hs h0 h k l hl hk
  · exact read_no s w he hs h0
end Go.Proofs.YtiaoaifoecmemaaGreatDoor
