/-
  The contracts of tree's write, where a node has no kids.
  The contracts of tree's writeKid and write, by a node's kids.
  The contracts of tree's write, where a node has kids.
  The contracts of tree's writeCall, and of write at every right node.
  tree's write at every right node.
-/
import Derived.Test.YtiaoaifoecmemaaGreatDoorRQ8
set_option maxRecDepth 100000
set_option maxHeartbeats 4000000
namespace Go.Proofs.YtiaoaifoecmemaaGreatDoor
open Go.RowKit
def Lies (w : World) (B : Nat) (h : Hd) (v : Value) (b o : Nat) : Prop := b < B ∧ ∀ j, j < 16 → w.cell? ⟨b, o + j, none⟩ = (hdC h v)[j]?
theorem Lies.below {w w' : World} {B : Nat} {h : Hd} {v : Value} {b o : Nat} (k : Lies w B h v b o) (hb : Below B w w') : Lies w' B h v b o :=
 ⟨k.1, fun j hj => by rw [hb.cell (p := ⟨b, o + j, none⟩) k.1]; exact k.2 j hj⟩
theorem write_val (B bb b o : Nat) (l : List UInt8) (h : Hd) (v : Value) (w : World) (hw : Wr B bb l w) (hl : Lies w B h v b o) (hk : h.kind = 1) (hc : constB h = true) (hs : l.length + (constL h.vk h.vn h.vs h.vb h.vc).length ≤ 1099511627776) :
  Calls Tryz.prog 31 #[.pointer (some ⟨bb, 0, none⟩), .pointer (some ⟨b, o, none⟩)] w fun e w' => e = .returned (.tuple #[]) ∧ Wr B bb (l ++ constL h.vk h.vn h.vs h.vb h.vc) w' ∧ Below B w w' := by
 have c0 : w.cell? ⟨b, o, none⟩ = some (.int .i64 1) := by have := hl.2 0 (by omega); rw [← hk]; exact this
 have c1 : w.cell? ⟨b, o + 1, none⟩ = some (.int .i64 h.vk) := hl.2 1 (by omega)
 have c2 : w.cell? ⟨b, o + 2, none⟩ = some (.int .i64 h.vn) := hl.2 2 (by omega)
 have c3 : w.cell? ⟨b, o + 3, none⟩ = some (.string ⟨h.vs.toArray⟩) := hl.2 3 (by omega)
 have c4 : w.cell? ⟨b, o + 4, none⟩ = some (.bool h.vb) := hl.2 4 (by omega)
 have c5 : w.cell? ⟨b, o + 5, none⟩ = some (.int .i64 h.vc) := hl.2 5 (by omega)
 have HC := hide (const_any h hc w hw.env.out)
 have HW : Hid (∀ W : World, Below w.heap.size w W → Calls Tryz.prog 52 #[.pointer (some ⟨bb, 0, none⟩), .string ⟨(constL h.vk h.vn h.vs h.vb h.vc).toArray⟩] W fun e w' => e = .returned (.tuple #[.int .i64 ((constL h.vk h.vn h.vs h.vb h.vc).length : Int), .nilIface]) ∧ Wr B bb (l ++ constL h.vk h.vn h.vs h.vb h.vc) w' ∧ Below B W w') := fun W hW => (hw.below hW).puts _ hs
 have HS := hide hw.size
 clear hw hl hc hs
 generalize constL h.vk h.vn h.vs h.vb h.vc = X at *
 go_enter Tryz.func31, Tryz.ntmps31
 go_wp2_with (first | (go_at_call 53; refine HC.out.mono ?_; rintro e w1 ⟨rfl, hb1⟩; have HB1 := hide hb1; clear hb1) | (go_at_call 52; refine (HW.out _ HB1.out).mono ?_; rintro e w2 ⟨rfl, hw2, hb2⟩; have HW2 := hide hw2; have HB2 := hide hb2; clear hw2 hb2))
 go_end0
 exact ⟨rfl, HW2.out, (HB1.out.mono HS.out).trans HB2.out⟩
theorem write_cell (B bb b o : Nat) (l : List UInt8) (h : Hd) (v : Value) (w : World) (hw : Wr B bb l w) (hl : Lies w B h v b o) (hk : h.kind = 2) (hs : l.length + (Pla.printR h.row h.col h.fr h.fc).1.length ≤ 1099511627776) :
  Calls Tryz.prog 31 #[.pointer (some ⟨bb, 0, none⟩), .pointer (some ⟨b, o, none⟩)] w fun e w' => e = .returned (.tuple #[]) ∧ Wr B bb (l ++ (Pla.printR h.row h.col h.fr h.fc).1) w' ∧ Below B w w' := by
 have c0 : w.cell? ⟨b, o, none⟩ = some (.int .i64 2) := by have := hl.2 0 (by omega); rw [← hk]; exact this
 have c6 : w.cell? ⟨b, o + 6, none⟩ = some (.int .i64 h.row) := hl.2 6 (by omega)
 have c7 : w.cell? ⟨b, o + 7, none⟩ = some (.int .i64 h.col) := hl.2 7 (by omega)
 have c8 : w.cell? ⟨b, o + 8, none⟩ = some (.bool h.fr) := hl.2 8 (by omega)
 have c9 : w.cell? ⟨b, o + 9, none⟩ = some (.bool h.fc) := hl.2 9 (by omega)
 have HC := hide (cell_any h.row h.col h.fr h.fc w hw.env.out)
 have HW : Hid (∀ W : World, Below w.heap.size w W → Calls Tryz.prog 52 #[.pointer (some ⟨bb, 0, none⟩), .string ⟨(Pla.printR h.row h.col h.fr h.fc).1.toArray⟩] W fun e w' => e = .returned (.tuple #[.int .i64 ((Pla.printR h.row h.col h.fr h.fc).1.length : Int), .nilIface]) ∧ Wr B bb (l ++ (Pla.printR h.row h.col h.fr h.fc).1) w' ∧ Below B W w') := fun W hW => (hw.below hW).puts _ hs
 have HS := hide hw.size
 clear hw hl hs
 generalize (Pla.printR h.row h.col h.fr h.fc).1 = X at *
 go_enter Tryz.func31, Tryz.ntmps31
 go_wp2_with (first | (go_at_call 54; refine HC.out.mono ?_; rintro e w1 ⟨rfl, hb1⟩; have HB1 := hide hb1; clear hb1) | (go_at_call 52; refine (HW.out _ HB1.out).mono ?_; rintro e w2 ⟨rfl, hw2, hb2⟩; have HW2 := hide hw2; have HB2 := hide hb2; clear hw2 hb2))
 go_end0
 exact ⟨rfl, HW2.out, (HB1.out.mono HS.out).trans HB2.out⟩
theorem below_drew0 (w : World) : Below w.heap.size w w.drew := ((Bar.refl w.heap.size w).drew).below (Nat.le_refl _)
theorem Lies.sees {w' : World} {B : Nat} {h : Hd} {v : Value} {b o : Nat} (k : Lies w' B h v b o) : w'.cell? ⟨b, o + 6, none⟩ = some (.int .i64 h.row) ∧ w'.cell? ⟨b, o + 7, none⟩ = some (.int .i64 h.col) ∧ w'.cell? ⟨b, o + 8, none⟩ = some (.bool h.fr) ∧ w'.cell? ⟨b, o + 9, none⟩ = some (.bool h.fc) ∧ w'.cell? ⟨b, o + 10, none⟩ = some (.int .i64 h.row2) ∧ w'.cell? ⟨b, o + 11, none⟩ = some (.int .i64 h.col2) ∧ w'.cell? ⟨b, o + 12, none⟩ = some (.bool h.fr2) ∧ w'.cell? ⟨b, o + 13, none⟩ = some (.bool h.fc2) :=
 ⟨k.2 6 (by omega), k.2 7 (by omega), k.2 8 (by omega), k.2 9 (by omega), k.2 10 (by omega), k.2 11 (by omega), k.2 12 (by omega), k.2 13 (by omega)⟩
theorem write_range (B bb b o : Nat) (l : List UInt8) (h : Hd) (v : Value) (w : World) (hw : Wr B bb l w) (hl : Lies w B h v b o) (hk : h.kind = 3) (X Y : List UInt8) (hX : (Pla.printR h.row h.col h.fr h.fc).1 = X) (hY : (Pla.printR h.row2 h.col2 h.fr2 h.fc2).1 = Y) (hx : X.length ≤ 100) (hy : Y.length ≤ 100) (hs : l.length + (X ++ 58 :: Y).length ≤ 1099511627776) :
  Calls Tryz.prog 31 #[.pointer (some ⟨bb, 0, none⟩), .pointer (some ⟨b, o, none⟩)] w fun e w' => e = .returned (.tuple #[]) ∧ Wr B bb (l ++ (X ++ 58 :: Y)) w' ∧ Below B w w' := by
 have c0 : w.cell? ⟨b, o, none⟩ = some (.int .i64 3) := by have := hl.2 0 (by omega); rw [← hk]; exact this
 have HC : Hid (∀ W : World, EnvT W → Calls Tryz.prog 54 #[.agg #[.int .i64 h.row, .int .i64 h.col, .bool h.fr, .bool h.fc]] W fun e w' => e = .returned (.string ⟨X.toArray⟩) ∧ Below W.heap.size W w') := fun W hW => by have := cell_any h.row h.col h.fr h.fc W hW; rw [hX] at this; exact this
 have HD : Hid (∀ W : World, EnvT W → Calls Tryz.prog 54 #[.agg #[.int .i64 h.row2, .int .i64 h.col2, .bool h.fr2, .bool h.fc2]] W fun e w' => e = .returned (.string ⟨Y.toArray⟩) ∧ Below W.heap.size W w') := fun W hW => by have := cell_any h.row2 h.col2 h.fr2 h.fc2 W hW; rw [hY] at this; exact this
 have HE := hide hw.env.out
 have HS := hide hw.size
 have HL := hide hl
 have hA : (⟨X.toArray⟩ : ByteArray) ++ ⟨#[58]⟩ ++ ⟨Y.toArray⟩ = ⟨(X ++ 58 :: Y).toArray⟩ := ByteArray.ext (by simp)
 have g1 : ¬ 9223372036854775807 < X.length + 1 := by omega
 have g2 : ¬ 9223372036854775807 < X.length + 1 + Y.length := by omega
 have HW : Hid (∀ W : World, Below w.heap.size w W → Calls Tryz.prog 52 #[.pointer (some ⟨bb, 0, none⟩), .string ((⟨X.toArray⟩ : ByteArray) ++ ⟨#[58]⟩ ++ ⟨Y.toArray⟩)] W fun e w' => e = .returned (.tuple #[.int .i64 ((X ++ 58 :: Y).length : Int), .nilIface]) ∧ Wr B bb (l ++ (X ++ 58 :: Y)) w' ∧ Below B W w') := fun W hW => by rw [hA]; exact (hw.below hW).puts _ hs
 clear hX hY hA hw hl hs hx hy
 go_enter Tryz.func31, Tryz.ntmps31
 go_wp2
 refine wp_region_held_drew (S := fun w' => w'.cell? ⟨b, o + 6, none⟩ = some (.int .i64 h.row) ∧ w'.cell? ⟨b, o + 7, none⟩ = some (.int .i64 h.col) ∧ w'.cell? ⟨b, o + 8, none⟩ = some (.bool h.fr) ∧ w'.cell? ⟨b, o + 9, none⟩ = some (.bool h.fc) ∧ w'.cell? ⟨b, o + 10, none⟩ = some (.int .i64 h.row2) ∧ w'.cell? ⟨b, o + 11, none⟩ = some (.int .i64 h.col2) ∧ w'.cell? ⟨b, o + 12, none⟩ = some (.bool h.fr2) ∧ w'.cell? ⟨b, o + 13, none⟩ = some (.bool h.fc2)) (by kernel_rfl) HL.out.sees (fun hHeld => ?_)
 (refine takeE (i := 0) (some 29) rfl rfl (by kernel_rfl) (v := ?_) rfl ?_ (by assumption) ?_; rotate_left; (focus (intro w hSw; (try dsimp only at hSw); first | (go_simp; done) | (go_simp; with_reducible rfl))); try simp only [Act.put, pA, pB, pC]); (refine takeE (i := 1) (some 30) rfl rfl (by kernel_rfl) (v := ?_) rfl ?_ (by assumption) ?_; rotate_left; (focus (intro w hSw; (try dsimp only at hSw); first | (go_simp; done) | (go_simp; with_reducible rfl))); try simp only [Act.put, pA, pB, pC]); (refine takeE (i := 2) (some 31) rfl rfl (by kernel_rfl) (v := ?_) rfl ?_ (by assumption) ?_; rotate_left; (focus (intro w hSw; (try dsimp only at hSw); first | (go_simp; done) | (go_simp; with_reducible rfl))); try simp only [Act.put, pA, pB, pC]); (refine takeE (i := 3) (some 32) rfl rfl (by kernel_rfl) (v := ?_) rfl ?_ (by assumption) ?_; rotate_left; (focus (intro w hSw; (try dsimp only at hSw); first | (go_simp; done) | (go_simp; with_reducible rfl))); try simp only [Act.put, pA, pB, pC]); (refine takeE (i := 4) (some 33) rfl rfl (by kernel_rfl) (v := ?_) rfl ?_ (by assumption) ?_; rotate_left; (focus (intro w hSw; (try dsimp only at hSw); first | (go_simp; done) | (go_simp; with_reducible rfl))); try simp only [Act.put, pA, pB, pC]); (refine takeE (i := 7) (some 36) rfl rfl (by kernel_rfl) (v := ?_) rfl ?_ (by assumption) ?_; rotate_left; (focus (intro w hSw; (try dsimp only at hSw); first | (go_simp; done) | (go_simp; with_reducible rfl))); try simp only [Act.put, pA, pB, pC]); (refine takeE (i := 8) (some 37) rfl rfl (by kernel_rfl) (v := ?_) rfl ?_ (by assumption) ?_; rotate_left; (focus (intro w hSw; (try dsimp only at hSw); first | (go_simp; done) | (go_simp; with_reducible rfl))); try simp only [Act.put, pA, pB, pC]); (refine takeE (i := 9) (some 38) rfl rfl (by kernel_rfl) (v := ?_) rfl ?_ (by assumption) ?_; rotate_left; (focus (intro w hSw; (try dsimp only at hSw); first | (go_simp; done) | (go_simp; with_reducible rfl))); try simp only [Act.put, pA, pB, pC]); (refine takeE (i := 10) (some 39) rfl rfl (by kernel_rfl) (v := ?_) rfl ?_ (by assumption) ?_; rotate_left; (focus (intro w hSw; (try dsimp only at hSw); first | (go_simp; done) | (go_simp; with_reducible rfl))); try simp only [Act.put, pA, pB, pC])
 (refine wpAnyH_ready (rs := [5]) (by kernel_rfl) (by simp) ?_; refine AllReadyH.cons (o := _) rfl (fun K hK => ?_) AllReadyH.nil; go_simp; (go_at_call 54; refine (HC.out _ (HE.out.below (below_drew0 w))).mono ?_; rintro e w1 ⟨rfl, hb1⟩; have HB1 := hide (bar_below (below_drew0 w) (Bar.of hb1)); clear hb1); refine hK.out _ _ (HL.out.below (HB1.out.mono HS.out)).sees (fun hHeld => ?_); clear hK K; try simp only [Act.put, pA, pB, pC])
 (refine takeE (i := 6) (some 35) rfl rfl (by kernel_rfl) (v := ?_) rfl ?_ (by assumption) ?_; rotate_left; (focus (intro w hSw; (try dsimp only at hSw); first | (go_simp; done) | (go_simp; with_reducible rfl))); try simp only [Act.put, pA, pB, pC])
 (refine wpAnyH_ready (rs := [11]) (by kernel_rfl) (by simp) ?_; refine AllReadyH.cons (o := _) rfl (fun K hK => ?_) AllReadyH.nil; go_simp; (go_at_call 54; refine (HD.out _ (HE.out.below HB1.out)).mono ?_; rintro e w2 ⟨rfl, hb2⟩; have HB2 := hide (bar_below HB1.out (Bar.of hb2)); clear hb2); refine hK.out _ _ (HL.out.below (HB2.out.mono HS.out)).sees (fun hHeld => ?_); clear hK K; try simp only [Act.put, pA, pB, pC])
 (refine takeE (i := 12) (some 41) rfl rfl (by kernel_rfl) (v := ?_) rfl ?_ (by assumption) ?_; rotate_left; (focus (intro w hSw; (try dsimp only at hSw); first | (go_simp; done) | (go_simp; with_reducible rfl))); try simp only [Act.put, pA, pB, pC])
 (refine wpAnyH_ready (rs := [13]) (by kernel_rfl) (by simp) ?_; refine AllReadyH.cons (o := _) rfl (fun K hK => ?_) AllReadyH.nil; go_simp; (go_at_call 52; refine (HW.out _ HB2.out).mono ?_; rintro e w3 ⟨rfl, hw3, hb3⟩; have HW3 := hide hw3; have HB3 := hide ((HB2.out.mono HS.out).trans hb3); clear hw3 hb3); refine hK.out _ _ (HL.out.below HB3.out).sees (fun hHeld => ?_); clear hK K; try simp only [Act.put, pA, pB, pC])
 refine wpAnyH_done (by kernel_rfl) ?_ _
 go_wp2
 go_end0
 exact ⟨rfl, HW3.out, HB3.out⟩
def WrN (h : Hd) (k : Fo) : Prop := ∀ (B bb b o : Nat) (l : List UInt8) (w : World), Wr B bb l w → Row w (fun c => c < B) (.cons h k .nil) b o → rightN h k = true → l.length + (textN h k).length ≤ 1099511627776 →
 Calls Tryz.prog 31 #[.pointer (some ⟨bb, 0, none⟩), .pointer (some ⟨b, o, none⟩)] w fun e w' => e = .returned (.tuple #[]) ∧ Wr B bb (l ++ textN h k) w' ∧ Below B w w'
theorem row_below {w w' : World} {B : Nat} {F : Fo} {b o : Nat} (h : Row w (fun c => c < B) F b o) (k : Below B w w') : Row w' (fun c => c < B) F b o := row_to (fun c hc => ⟨hc, k.block c hc⟩) _ _ _ h
theorem row_lies {w : World} {B : Nat} {h : Hd} {k r : Fo} {b o : Nat} (hr : Row w (fun c => c < B) (.cons h k r) b o) : ∃ v, Lies w B h v b o ∧ Kv w (fun c => c < B) v k := by
 obtain ⟨h1, ⟨v, h2, h3⟩, _⟩ := hr
 exact ⟨v, ⟨h1, h2⟩, h3⟩
theorem writeKid_no (h : Hd) (k : Fo) (hN : WrN h k) (m B bb b o : Nat) (l : List UInt8) (w : World) (hw : Wr B bb l w) (hr : Row w (fun c => c < B) (.cons h k .nil) b o) (hn : rightN h k = true) (h5 : h.kind ≠ 5) (hs : l.length + (textN h k).length ≤ 1099511627776) :
  Calls Tryz.prog 55 #[.pointer (some ⟨bb, 0, none⟩), .pointer (some ⟨b, o, none⟩), .int .i64 (m : Int)] w fun e w' => e = .returned (.tuple #[]) ∧ Wr B bb (l ++ textN h k) w' ∧ Below B w w' := by
 obtain ⟨v, hl, _⟩ := row_lies hr
 have c0 : w.cell? ⟨b, o, none⟩ = some (.int .i64 h.kind) := hl.2 0 (by omega)
 have HN := hide (hN B bb b o l w hw hr hn hs)
 clear hN hw hr hn hs hl
 go_enter Tryz.func55, Tryz.ntmps55
 go_wp2_with (first | (go_at_call 31; refine HN.out.mono ?_; rintro e w1 ⟨rfl, hw1, hb1⟩; have HW1 := hide hw1; have HB1 := hide hb1; clear hw1 hb1))
 refine bodyPost_ret (results_none rfl _ _ _) rfl ⟨rfl, HW1.out, HB1.out⟩
theorem writeKid_tight (h : Hd) (k : Fo) (hN : WrN h k) (m B bb b o : Nat) (l : List UInt8) (w : World) (hw : Wr B bb l w) (hr : Row w (fun c => c < B) (.cons h k .nil) b o) (hn : rightN h k = true) (h5 : h.kind = 5) (hm : m ≤ bindN h.txt) (hs : l.length + (textN h k).length ≤ 1099511627776) :
  Calls Tryz.prog 55 #[.pointer (some ⟨bb, 0, none⟩), .pointer (some ⟨b, o, none⟩), .int .i64 (m : Int)] w fun e w' => e = .returned (.tuple #[]) ∧ Wr B bb (l ++ textN h k) w' ∧ Below B w w' := by
 obtain ⟨v, hl, _⟩ := row_lies hr
 have c0 : w.cell? ⟨b, o, none⟩ = some (.int .i64 5) := by rw [← h5]; exact hl.2 0 (by omega)
 have c14 : w.cell? ⟨b, o + 14, none⟩ = some (.string ⟨h.txt.toArray⟩) := hl.2 14 (by omega)
 have HN := hide (hN B bb b o l w hw hr hn hs)
 have HB : Hid (∀ W : World, Calls Tryz.prog 56 #[.string ⟨h.txt.toArray⟩] W fun e w' => e = .returned (.int .i64 (bindN h.txt : Int)) ∧ w' = W) := fun W => by have := binding_any ⟨h.txt.toArray⟩ W; simpa using this
 clear hN hw hr hn hs hl
 generalize bindN h.txt = M at *
 have hm' : (m : Int) ≤ (M : Int) := by omega
 go_enter Tryz.func55, Tryz.ntmps55
 go_wp2_with (first | (go_at_call 56; refine (HB.out _).mono ?_; rintro e wz ⟨rfl, hz⟩; subst wz) | (go_at_call 31; refine HN.out.mono ?_; rintro e w1 ⟨rfl, hw1, hb1⟩; have HW1 := hide hw1; have HB1 := hide hb1; clear hw1 hb1))
 refine bodyPost_ret (results_none rfl _ _ _) rfl ⟨rfl, HW1.out, HB1.out⟩
theorem writeKid_loose (h : Hd) (k : Fo) (hN : WrN h k) (m B bb b o : Nat) (l : List UInt8) (w : World) (hw : Wr B bb l w) (hr : Row w (fun c => c < B) (.cons h k .nil) b o) (hn : rightN h k = true) (h5 : h.kind = 5) (hm : bindN h.txt < m) (hs : l.length + (40 :: (textN h k ++ [41])).length ≤ 1099511627776) :
  Calls Tryz.prog 55 #[.pointer (some ⟨bb, 0, none⟩), .pointer (some ⟨b, o, none⟩), .int .i64 (m : Int)] w fun e w' => e = .returned (.tuple #[]) ∧ Wr B bb (l ++ 40 :: (textN h k ++ [41])) w' ∧ Below B w w' := by
 obtain ⟨v, hl, _⟩ := row_lies hr
 have c0 : w.cell? ⟨b, o, none⟩ = some (.int .i64 5) := by rw [← h5]; exact hl.2 0 (by omega)
 have c14 : w.cell? ⟨b, o + 14, none⟩ = some (.string ⟨h.txt.toArray⟩) := hl.2 14 (by omega)
 simp only [List.length_cons, List.length_append, List.length_nil] at hs
 have HO : Hid (Calls Tryz.prog 52 #[.pointer (some ⟨bb, 0, none⟩), .string ⟨#[40]⟩] w fun e w' => e = .returned (.tuple #[.int .i64 1, .nilIface]) ∧ Wr B bb (l ++ [40]) w' ∧ Below B w w') := hw.puts [40] (by simp; omega)
 have HN : Hid (∀ W : World, Wr B bb (l ++ [40]) W → Below B w W → Calls Tryz.prog 31 #[.pointer (some ⟨bb, 0, none⟩), .pointer (some ⟨b, o, none⟩)] W fun e w' => e = .returned (.tuple #[]) ∧ Wr B bb (l ++ [40] ++ textN h k) w' ∧ Below B W w') := fun W hW hb => hN B bb b o _ W hW (row_below hr hb) hn (by simp; omega)
 have HX : Hid (∀ W : World, Wr B bb (l ++ [40] ++ textN h k) W → Calls Tryz.prog 52 #[.pointer (some ⟨bb, 0, none⟩), .string ⟨#[41]⟩] W fun e w' => e = .returned (.tuple #[.int .i64 1, .nilIface]) ∧ Wr B bb (l ++ [40] ++ textN h k ++ [41]) w' ∧ Below B W w') := fun W hW => hW.puts [41] (by simp; omega)
 have HB : Hid (∀ W : World, Calls Tryz.prog 56 #[.string ⟨h.txt.toArray⟩] W fun e w' => e = .returned (.int .i64 (bindN h.txt : Int)) ∧ w' = W) := fun W => by have := binding_any ⟨h.txt.toArray⟩ W; simpa using this
 have he : l ++ 40 :: (textN h k ++ [41]) = l ++ [40] ++ textN h k ++ [41] := by simp
 rw [he]
 clear hN hw hr hn hs hl he
 generalize bindN h.txt = M at *
 have hm' : ¬ (m : Int) ≤ (M : Int) := by omega
 go_enter Tryz.func55, Tryz.ntmps55
 go_wp2_with (first | (go_at_call 56; refine (HB.out _).mono ?_; rintro e wz ⟨rfl, hz⟩; subst wz) | (go_at_call 31; refine (HN.out _ HW1.out HB1.out).mono ?_; rintro e w2 ⟨rfl, hw2, hb2⟩; have HW2 := hide hw2; have HB2 := hide (HB1.out.trans hb2); clear hw2 hb2) | (go_at_call_of 52 (Value.string ⟨#[40]⟩); refine HO.out.mono ?_; rintro e w1 ⟨rfl, hw1, hb1⟩; have HW1 := hide hw1; have HB1 := hide hb1; clear hw1 hb1) | (go_at_call_of 52 (Value.string ⟨#[41]⟩); refine (HX.out _ HW2.out).mono ?_; rintro e w3 ⟨rfl, hw3, hb3⟩; have HW3 := hide hw3; have HB3 := hide (HB2.out.trans hb3); clear hw3 hb3))
 go_end0
 exact ⟨rfl, HW3.out, HB3.out⟩
theorem writeKid_any (h : Hd) (k : Fo) (hN : WrN h k) (m B bb b o : Nat) (l : List UInt8) (w : World) (hw : Wr B bb l w) (hr : Row w (fun c => c < B) (.cons h k .nil) b o) (hn : rightN h k = true) (hs : l.length + (kidL m h k).length ≤ 1099511627776) :
    Calls Tryz.prog 55 #[.pointer (some ⟨bb, 0, none⟩), .pointer (some ⟨b, o, none⟩), .int .i64 (m : Int)] w fun e w' => e = .returned (.tuple #[]) ∧ Wr B bb (l ++ kidL m h k) w' ∧ Below B w w' := by
  unfold kidL at *
  by_cases h5 : h.kind = 5
  · by_cases hm : bindN h.txt < m
    · rw [if_pos ⟨h5, hm⟩] at hs ⊢
      exact writeKid_loose h k hN m B bb b o l w hw hr hn h5 hm hs
    · rw [if_neg (fun e => hm e.2)] at hs ⊢
      exact writeKid_tight h k hN m B bb b o l w hw hr hn h5 (by omega) hs
  · rw [if_neg (fun e => h5 e.1)] at hs ⊢
    exact writeKid_no h k hN m B bb b o l w hw hr hn h5 hs
theorem write_neg (h h1 : Hd) (k1 : Fo) (hN : WrN h1 k1) (B bb b o : Nat) (l : List UInt8) (w : World) (hw : Wr B bb l w) (hr : Row w (fun c => c < B) (.cons h (.cons h1 k1 .nil) .nil) b o) (hk : h.kind = 4) (hn : rightN h1 k1 = true) (hs : l.length + (45 :: kidL 5 h1 k1).length ≤ 1099511627776) :
    Calls Tryz.prog 31 #[.pointer (some ⟨bb, 0, none⟩), .pointer (some ⟨b, o, none⟩)] w fun e w' => e = .returned (.tuple #[]) ∧ Wr B bb (l ++ 45 :: kidL 5 h1 k1) w' ∧ Below B w w' := by
  obtain ⟨v, hl, a, n, cap, rfl, hn1, hkk⟩ := row_lies hr
  obtain ⟨b', o', rfl, hcap1, hcap2, hrw⟩ : ∃ b' o', a = some ⟨b', o', none⟩ ∧ n ≤ cap ∧ cap ≤ maxLen ∧ Row w (fun c => c < B) (.cons h1 k1 .nil) b' o' := by
    rcases hkk with e | e
    · cases e
    · exact e
  obtain rfl : n = 1 := hn1
  unfold maxLen at hcap2
  have c0 : w.cell? ⟨b, o, none⟩ = some (.int .i64 4) := by rw [← hk]; exact hl.2 0 (by omega)
  have hc15 : w.cell? ⟨b, o + 15, none⟩ = some (.slice (some ⟨b', o', none⟩) 1 cap) := hl.2 15 (by omega)
  simp only [List.length_cons] at hs
  have HO : Hid (Calls Tryz.prog 52 #[.pointer (some ⟨bb, 0, none⟩), .string ⟨#[45]⟩] w fun e w' => e = .returned (.tuple #[.int .i64 1, .nilIface]) ∧ Wr B bb (l ++ [45]) w' ∧ Below B w w') := hw.puts [45] (by simp; omega)
  have HN : Hid (∀ W : World, Wr B bb (l ++ [45]) W → Below B w W → Calls Tryz.prog 55 #[.pointer (some ⟨bb, 0, none⟩), .pointer (some ⟨b', o', none⟩), .int .i64 5] W fun e w' => e = .returned (.tuple #[]) ∧ Wr B bb (l ++ [45] ++ kidL 5 h1 k1) w' ∧ Below B W w') := fun W hW hb => writeKid_any h1 k1 hN 5 B bb b' o' _ W hW (row_below hrw hb) hn (by simp; omega)
  have he : l ++ 45 :: kidL 5 h1 k1 = l ++ [45] ++ kidL 5 h1 k1 := by simp
  rw [he]
  have HL := hide hl
  clear hN hw hr hn hs hl he hkk hrw
  go_enter Tryz.func31, Tryz.ntmps31
  go_wp2_with (first | (go_at_call 52; refine HO.out.mono ?_; rintro e w1 ⟨rfl, hw1, hb1⟩; have HW1 := hide hw1; have HB1 := hide hb1; have c15 : w1.cell? ⟨b, o + 15, none⟩ = some (.slice (some ⟨b', o', none⟩) 1 cap) := (HL.out.below hb1).2 15 (by omega); clear hw1 hb1) | (go_at_call 55; refine (HN.out _ HW1.out HB1.out).mono ?_; rintro e w2 ⟨rfl, hw2, hb2⟩; have HW2 := hide hw2; have HB2 := hide (HB1.out.trans hb2); clear hw2 hb2))
  go_end0
  exact ⟨rfl, HW2.out, HB2.out⟩
theorem write_bin (h h1 h2 : Hd) (k1 k2 : Fo) (hN : WrN h1 k1) (hM : WrN h2 k2) (B bb b o : Nat) (l : List UInt8) (w : World) (hw : Wr B bb l w) (hr : Row w (fun c => c < B) (.cons h (.cons h1 k1 (.cons h2 k2 .nil)) .nil) b o) (hk : h.kind = 5) (hn : rightN h1 k1 = true) (hm : rightN h2 k2 = true) (hs : l.length + (kidL (bindN h.txt) h1 k1 ++ h.txt ++ kidL (bindN h.txt + 1) h2 k2).length ≤ 1099511627776) :
    Calls Tryz.prog 31 #[.pointer (some ⟨bb, 0, none⟩), .pointer (some ⟨b, o, none⟩)] w fun e w' => e = .returned (.tuple #[]) ∧ Wr B bb (l ++ (kidL (bindN h.txt) h1 k1 ++ h.txt ++ kidL (bindN h.txt + 1) h2 k2)) w' ∧ Below B w w' := by
  obtain ⟨v, hl, a, n, cap, rfl, hn1, hkk⟩ := row_lies hr
  obtain ⟨b', o', rfl, hcap1, hcap2, hrw⟩ : ∃ b' o', a = some ⟨b', o', none⟩ ∧ n ≤ cap ∧ cap ≤ maxLen ∧ Row w (fun c => c < B) (.cons h1 k1 (.cons h2 k2 .nil)) b' o' := by
    rcases hkk with e | e
    · cases e
    · exact e
  obtain rfl : n = 2 := hn1
  unfold maxLen at hcap2
  obtain ⟨p1, p2, p3⟩ := hrw
  have hr1 : Row w (fun c => c < B) (.cons h1 k1 .nil) b' o' := ⟨p1, p2, trivial⟩
  have c0 : w.cell? ⟨b, o, none⟩ = some (.int .i64 5) := by rw [← hk]; exact hl.2 0 (by omega)
  have c14 : w.cell? ⟨b, o + 14, none⟩ = some (.string ⟨h.txt.toArray⟩) := hl.2 14 (by omega)
  have hc15 : w.cell? ⟨b, o + 15, none⟩ = some (.slice (some ⟨b', o', none⟩) 2 cap) := hl.2 15 (by omega)
  simp only [List.length_append] at hs
  have hbd := bind_le h.txt
  have HB : Hid (∀ W : World, Calls Tryz.prog 56 #[.string ⟨h.txt.toArray⟩] W fun e w' => e = .returned (.int .i64 (bindN h.txt : Int)) ∧ w' = W) := fun W => by have := binding_any ⟨h.txt.toArray⟩ W; simpa using this
  generalize bindN h.txt = M at *
  have HN : Hid (Calls Tryz.prog 55 #[.pointer (some ⟨bb, 0, none⟩), .pointer (some ⟨b', o', none⟩), .int .i64 (M : Int)] w fun e w' => e = .returned (.tuple #[]) ∧ Wr B bb (l ++ kidL M h1 k1) w' ∧ Below B w w') := writeKid_any h1 k1 hN M B bb b' o' _ w hw hr1 hn (by omega)
  have HO : Hid (∀ W : World, Wr B bb (l ++ kidL M h1 k1) W → Calls Tryz.prog 52 #[.pointer (some ⟨bb, 0, none⟩), .string ⟨h.txt.toArray⟩] W fun e w' => e = .returned (.tuple #[.int .i64 (h.txt.length : Int), .nilIface]) ∧ Wr B bb (l ++ kidL M h1 k1 ++ h.txt) w' ∧ Below B W w') := fun W hW => hW.puts _ (by simp; omega)
  have HM : Hid (∀ W : World, Wr B bb (l ++ kidL M h1 k1 ++ h.txt) W → Below B w W → Calls Tryz.prog 55 #[.pointer (some ⟨bb, 0, none⟩), .pointer (some ⟨b', o' + 16, none⟩), .int .i64 ((M : Int) + 1)] W fun e w' => e = .returned (.tuple #[]) ∧ Wr B bb (l ++ kidL M h1 k1 ++ h.txt ++ kidL (M + 1) h2 k2) w' ∧ Below B W w') := fun W hW hb => writeKid_any h2 k2 hM (M + 1) B bb b' (o' + 16) _ W hW (row_below p3 hb) hm (by simp; omega)
  have he : l ++ (kidL M h1 k1 ++ h.txt ++ kidL (M + 1) h2 k2) = l ++ kidL M h1 k1 ++ h.txt ++ kidL (M + 1) h2 k2 := by simp
  rw [he]
  have HL := hide hl
  clear hN hM hw hr hn hm hs hl he hkk p1 p2 p3 hr1
  go_enter Tryz.func31, Tryz.ntmps31
  go_wp2_with (first | (go_at_call 56; refine (HB.out _).mono ?_; rintro e wz ⟨rfl, hz⟩; subst wz) | (go_at_call_of 55 (Value.int IntKind.i64 (M : Int)); refine HN.out.mono ?_; rintro e w1 ⟨rfl, hw1, hb1⟩; have HW1 := hide hw1; have HB1 := hide hb1; have d14 : w1.cell? ⟨b, o + 14, none⟩ = some (.string ⟨h.txt.toArray⟩) := (HL.out.below hb1).2 14 (by omega); clear hw1 hb1) | (go_at_call 52; refine (HO.out _ HW1.out).mono ?_; rintro e w2 ⟨rfl, hw2, hb2⟩; have HW2 := hide hw2; have HB2 := hide (HB1.out.trans hb2); have d15 : w2.cell? ⟨b, o + 15, none⟩ = some (.slice (some ⟨b', o', none⟩) 2 cap) := (HL.out.below (HB1.out.trans hb2)).2 15 (by omega); clear hw2 hb2))
  refine (HM.out _ HW2.out HB2.out).mono ?_
  rintro e w3 ⟨rfl, hw3, hb3⟩
  have HW3 := hide hw3
  have HB3 := hide (HB2.out.trans hb3)
  clear hw3 hb3
  go_wp2
  go_end0
  exact ⟨rfl, HW3.out, HB3.out⟩
def tailL : Fo → List UInt8
 | .nil => []
 | .cons h k r => 44 :: (textN h k ++ tailL r)
theorem args_tail : ∀ (h : Hd) (k r : Fo), argsL (.cons h k r) = textN h k ++ tailL r
 | h, k, .nil => by simp [argsL, tailL]
 | h, k, .cons h' k' r => by rw [argsL, args_tail h' k' r, tailL]; simp
def WrA : Fo → Prop
 | .nil => True
 | .cons h k r => WrN h k ∧ WrA r
def restL (i : Nat) (F : Fo) : List UInt8 := if i = 0 then argsL F else tailL F
theorem writeCall_any (h : Hd) (k : Fo) (hA : WrA k) (B bb b o : Nat) (l : List UInt8) (w : World) (hw : Wr B bb l w) (hr : Row w (fun c => c < B) (.cons h k .nil) b o) (hn : allB k = true) (ht : h.txt.length ≤ 20) (hs : l.length + (h.txt ++ 40 :: (argsL k ++ [41])).length ≤ 1099511627776) :
    Calls Tryz.prog 57 #[.pointer (some ⟨bb, 0, none⟩), .pointer (some ⟨b, o, none⟩)] w fun e w' => e = .returned (.tuple #[]) ∧ Wr B bb (l ++ (h.txt ++ 40 :: (argsL k ++ [41]))) w' ∧ Below B w w' := by
  obtain ⟨v, hl, a, n, cap, rfl, hn1, hkk⟩ := row_lies hr
  subst hn1
  have c14 : w.cell? ⟨b, o + 14, none⟩ = some (.string ⟨h.txt.toArray⟩) := hl.2 14 (by omega)
  simp only [List.length_append, List.length_cons, List.length_nil] at hs
  have hAp : (⟨h.txt.toArray⟩ : ByteArray) ++ ⟨#[40]⟩ = ⟨(h.txt ++ [40]).toArray⟩ := ByteArray.ext (by simp)
  have g1 : ¬ 9223372036854775807 < h.txt.length + 1 := by omega
  have HO : Hid (Calls Tryz.prog 52 #[.pointer (some ⟨bb, 0, none⟩), .string ((⟨h.txt.toArray⟩ : ByteArray) ++ ⟨#[40]⟩)] w fun e w' => e = .returned (.tuple #[.int .i64 ((h.txt ++ [40]).length : Int), .nilIface]) ∧ Wr B bb (l ++ (h.txt ++ [40])) w' ∧ Below B w w') := by show Calls _ _ _ _ _; rw [hAp]; exact hw.puts _ (by simp; omega)
  have he : l ++ (h.txt ++ 40 :: (argsL k ++ [41])) = l ++ (h.txt ++ [40]) ++ argsL k ++ [41] := by simp
  rw [he]
  have HL := hide hl
  have HKi := hide hkk
  have HA := hide hA
  have HAll := hide hn
  have HLen := hide hs
  clear hA hw hr hn hs hl he hkk hAp
  go_enter Tryz.func57, Tryz.ntmps57
  go_wp2_with (first | (go_at_call 52; refine HO.out.mono ?_; rintro e w1 ⟨rfl, hw1, hb1⟩; have HW1 := hide hw1; have HB1 := hide hb1; have c15 : w1.cell? ⟨b, o + 15, none⟩ = some (.slice a k.len cap) := (HL.out.below hb1).2 15 (by omega); clear hw1 hb1))
  go_loopw [17, 4] (fun u _ wr => ∃ (i : Nat) (F : Fo) (L : List UInt8), u = .int .i64 (i : Int) ∧ i + F.len = k.len ∧ (F = .nil ∨ ∃ b' o', a = some ⟨b', o', none⟩ ∧ k.len ≤ cap ∧ cap ≤ maxLen ∧ Row w (fun c => c < B) F b' (o' + i * 16)) ∧ WrA F ∧ allB F = true ∧ Wr B bb L wr ∧ Below B w wr ∧ L ++ restL i F = l ++ (h.txt ++ [40]) ++ argsL k) (fun u _ _ => k.len - (intOf u).toNat)
  case atStart =>
    refine ⟨0, k, l ++ (h.txt ++ [40]), rfl, by omega, ?_, HA.out, HAll.out, HW1.out, HB1.out, rfl⟩
    rcases HKi.out with e | ⟨b', o', e1, e2, e3, e4⟩
    · exact .inl e
    · exact .inr ⟨b', o', e1, e2, e3, by simpa using e4⟩
  case round =>
    obtain ⟨i, F, L, rfl, hl, hF, hAF, hOF, hWr, hB, hq⟩ := hrel
    have HQ := hide hq
    have HB := hide hB
    have HWr := hide hWr
    have hcb : wr.cell? ⟨b, o + 15, none⟩ = some (.slice a k.len cap) := (HL.out.below hB).2 15 (by omega)
    have hlen : L.length + (restL i F).length = l.length + (h.txt.length + 1) + (argsL k).length := by have := congrArg List.length hq; simp only [List.length_append, List.length_cons, List.length_nil] at this; omega
    have htot := HLen.out
    clear hq hB hWr c15
    match F, hl, hF, hAF, hOF, HQ, hlen with
    | .nil, hl, _, _, _, HQ, hlen =>
      have hli : ¬ (i : Int) < (k.len : Int) := by simp [Fo.len] at hl; omega
      have hr0 : restL i .nil = [] := by unfold restL argsL tailL; split <;> rfl
      have HQ2 : Hid (L = l ++ (h.txt ++ [40]) ++ argsL k) := by have := HQ.out; rw [hr0, List.append_nil] at this; exact this
      have HX : Hid (Calls Tryz.prog 52 #[.pointer (some ⟨bb, 0, none⟩), .string ⟨#[41]⟩] wr fun e w' => e = .returned (.tuple #[.int .i64 1, .nilIface]) ∧ Wr B bb (L ++ [41]) w' ∧ Below B wr w') := HWr.out.puts [41] (by rw [hr0] at hlen; simp at hlen ⊢; omega)
      clear hlen htot hr0 HQ hl
      go_wp2_with (first | (go_at_call 52; refine HX.out.mono ?_; rintro e w2 ⟨rfl, hw2, hb2⟩; have HW2 := hide hw2; have HB2 := hide (HB.out.trans hb2); clear hw2 hb2))
      go_end0
      rw [← HQ2.out]
      exact ⟨rfl, HW2.out, HB2.out⟩
    | .cons h1 k1 r1, hl, hF, hAF, hOF, HQ, hlen =>
      have hli : (i : Int) < (k.len : Int) := by simp [Fo.len] at hl; omega
      have hl2 : i + 1 + r1.len = k.len := by simp [Fo.len] at hl; omega
      obtain ⟨b', o', rfl, hcap1, hcap2, hrw⟩ : ∃ b' o', a = some ⟨b', o', none⟩ ∧ k.len ≤ cap ∧ cap ≤ maxLen ∧ Row w (fun c => c < B) (.cons h1 k1 r1) b' (o' + i * 16) := by
        rcases hF with e | e
        · cases e
        · exact e
      obtain ⟨p1, p2, p3⟩ := hrw
      have HR1 : Hid (Row w (fun c => c < B) (.cons h1 k1 .nil) b' (o' + i * 16)) := ⟨p1, p2, trivial⟩
      have HR2 : Hid (Row w (fun c => c < B) r1 b' (o' + (i + 1) * 16)) := by rw [show o' + (i + 1) * 16 = o' + i * 16 + 16 by omega]; exact p3
      unfold maxLen at hcap2
      obtain ⟨hA1, hA2⟩ := hAF
      simp only [allB, Bool.and_eq_true] at hOF
      have HA2 := hide hA2
      have HO3 := hide hOF.2
      have hrn : rightN h1 k1 = true := by simp [rightN, hOF.1.1, hOF.1.2]
      by_cases hi : i = 0
      · subst hi
        have HQ2 : Hid (L ++ textN h1 k1 ++ restL 1 r1 = l ++ (h.txt ++ [40]) ++ argsL k) := by
          have := HQ.out
          unfold restL at this ⊢
          rw [if_pos rfl, args_tail] at this
          rw [if_neg (by omega), List.append_assoc]; exact this
        have hlen2 : L.length + (textN h1 k1).length ≤ l.length + (h.txt.length + 1) + (argsL k).length := by have := congrArg List.length HQ2.out; simp at this; omega
        have HN : Hid (Calls Tryz.prog 31 #[.pointer (some ⟨bb, 0, none⟩), .pointer (some ⟨b', o', none⟩)] wr fun e w' => e = .returned (.tuple #[]) ∧ Wr B bb (L ++ textN h1 k1) w' ∧ Below B wr w') := hA1 B bb b' _ L wr HWr.out (row_below (by have := HR1.out; simpa using this) HB.out) hrn (by omega)
        clear p1 p2 p3 hF hl hA1 hA2 hOF HQ hlen hlen2 htot hrn
        go_wp2_with (first | (go_at_call 31; refine HN.out.mono ?_; rintro e w2 ⟨rfl, hw2, hb2⟩; have HW2 := hide hw2; have HB2 := hide (HB.out.trans hb2); clear hw2 hb2))
        go_roundw
        case rel => exact ⟨1, r1, L ++ textN h1 k1, rfl, by omega, .inr ⟨b', o', rfl, hcap1, by unfold maxLen; exact hcap2, HR2.out⟩, HA2.out, HO3.out, HW2.out, HB2.out, HQ2.out⟩
        case measure => simp [intOf]; omega
      · have HQ2 : Hid (L ++ [44] ++ textN h1 k1 ++ restL (i + 1) r1 = l ++ (h.txt ++ [40]) ++ argsL k) := by
          show L ++ [44] ++ textN h1 k1 ++ restL (i + 1) r1 = l ++ (h.txt ++ [40]) ++ argsL k
          have := HQ.out
          unfold restL at this ⊢
          rw [if_neg hi, tailL] at this
          rw [if_neg (by omega)]
          rw [← this]; simp
        have hlen2 : L.length + 1 + (textN h1 k1).length ≤ l.length + (h.txt.length + 1) + (argsL k).length := by have := congrArg List.length HQ2.out; simp at this; omega
        have HX : Hid (Calls Tryz.prog 52 #[.pointer (some ⟨bb, 0, none⟩), .string ⟨#[44]⟩] wr fun e w' => e = .returned (.tuple #[.int .i64 1, .nilIface]) ∧ Wr B bb (L ++ [44]) w' ∧ Below B wr w') := HWr.out.puts [44] (by simp; omega)
        have HN : Hid (∀ W : World, Wr B bb (L ++ [44]) W → Below B w W → Calls Tryz.prog 31 #[.pointer (some ⟨bb, 0, none⟩), .pointer (some ⟨b', o' + i * 16, none⟩)] W fun e w' => e = .returned (.tuple #[]) ∧ Wr B bb (L ++ [44] ++ textN h1 k1) w' ∧ Below B W w') := fun W hW hb => hA1 B bb b' _ _ W hW (row_below HR1.out hb) hrn (by simp; omega)
        have hi0 : (0 : Int) < (i : Int) := by omega
        clear hi p1 p2 p3 hF hl hA1 hA2 hOF HQ hlen hlen2 htot hrn
        go_wp2_with (first | (go_at_call 52; refine HX.out.mono ?_; rintro e w3 ⟨rfl, hw3, hb3⟩; have HW3 := hide hw3; have HB3 := hide (HB.out.trans hb3); have c15b : w3.cell? ⟨b, o + 15, none⟩ = some (.slice (some ⟨b', o', none⟩) k.len cap) := (HL.out.below (HB.out.trans hb3)).2 15 (by omega); clear hw3 hb3) | (go_at_call 31; refine (HN.out _ HW3.out HB3.out).mono ?_; rintro e w2 ⟨rfl, hw2, hb2⟩; have HW2 := hide hw2; have HB2 := hide (HB3.out.trans hb2); clear hw2 hb2))
        go_roundw
        case rel => exact ⟨i + 1, r1, L ++ [44] ++ textN h1 k1, by go_num, by omega, .inr ⟨b', o', rfl, hcap1, by unfold maxLen; exact hcap2, HR2.out⟩, HA2.out, HO3.out, HW2.out, HB2.out, HQ2.out⟩
        case measure => simp [intOf]; omega
theorem write_call (h : Hd) (k : Fo) (hA : WrA k) (B bb b o : Nat) (l : List UInt8) (w : World) (hw : Wr B bb l w) (hr : Row w (fun c => c < B) (.cons h k .nil) b o) (hk : h.kind = 6) (hn : allB k = true) (ht : h.txt.length ≤ 20) (hs : l.length + (h.txt ++ 40 :: (argsL k ++ [41])).length ≤ 1099511627776) :
  Calls Tryz.prog 31 #[.pointer (some ⟨bb, 0, none⟩), .pointer (some ⟨b, o, none⟩)] w fun e w' => e = .returned (.tuple #[]) ∧ Wr B bb (l ++ (h.txt ++ 40 :: (argsL k ++ [41]))) w' ∧ Below B w w' := by
 obtain ⟨v, hl, _⟩ := row_lies hr
 have c0 : w.cell? ⟨b, o, none⟩ = some (.int .i64 6) := by rw [← hk]; exact hl.2 0 (by omega)
 have HC := hide (writeCall_any h k hA B bb b o l w hw hr hn ht hs)
 clear hA hw hr hn hs hl
 go_enter Tryz.func31, Tryz.ntmps31
 go_wp2_with (first | (go_at_call 57; refine HC.out.mono ?_; rintro e w1 ⟨rfl, hw1, hb1⟩; have HW1 := hide hw1; have HB1 := hide hb1; clear hw1 hb1))
 go_end0
 exact ⟨rfl, HW1.out, HB1.out⟩
theorem cell_len (r c : Int) (x y : Bool) (h : Pla.placeB r c = true) : (Pla.printR r c x y).1.length ≤ 100 := by
 rw [Pla.printR_yes h]
 obtain ⟨h1, h2, h3, h4⟩ := Pla.placeB_iff.1 h
 have a := Pla.dec_len (n := r.toNat) (by omega)
 have b := (Pla.letters_len (n := c.toNat) (by omega) (by omega)).2
 have hs : ∀ z : Bool, (Pla.sgn z).length ≤ 1 := fun z => by cases z <;> simp [Pla.sgn]
 have s1 := hs x
 have s2 := hs y
 simp only [List.length_append]
 omega
theorem write_step (h : Hd) (k : Fo) (hA : WrA k) : WrN h k := by
  intro B bb b o l w hw hr hn hs
  have hn' := hn
  simp only [rightN, Bool.and_eq_true] at hn'
  obtain ⟨ha, hal⟩ := hn'
  obtain ⟨v, hl, _⟩ := row_lies hr
  rcases alone_cases ha with ⟨e1, e2, _⟩ | ⟨e1, e2, _⟩ | ⟨e1, e2, e3, _⟩ | ⟨e1, e2⟩ | ⟨e1, e2, e3⟩ | ⟨e1, e2⟩
  · have hk : h.kind = 1 := by rw [e1]; rfl
    rw [text_val hk] at hs ⊢
    exact write_val B bb b o l h v w hw hl hk e2 hs
  · have hk : h.kind = 2 := by rw [e1]; rfl
    rw [text_cell hk] at hs ⊢
    exact write_cell B bb b o l h v w hw hl hk hs
  · have hk : h.kind = 3 := by rw [e1]; rfl
    rw [text_range hk] at hs ⊢
    exact write_range B bb b o l h v w hw hl hk _ _ rfl rfl (cell_len _ _ _ _ e2) (cell_len _ _ _ _ e3) hs
  · have hk : h.kind = 4 := by rw [e1]; rfl
    obtain ⟨h1, k1, rfl⟩ := fo_one e2
    rw [text_neg hk] at hs ⊢
    simp only [allB, Bool.and_eq_true] at hal
    exact write_neg h h1 k1 hA.1 B bb b o l w hw hr hk (by simp [rightN, hal.1.1, hal.1.2]) hs
  · have hk : h.kind = 5 := by rw [e1]; rfl
    obtain ⟨h1, k1, h2, k2, rfl⟩ := fo_two e3
    rw [text_bin hk] at hs ⊢
    simp only [allB, Bool.and_eq_true] at hal
    exact write_bin h h1 h2 k1 k2 hA.1 hA.2.1 B bb b o l w hw hr hk (by simp [rightN, hal.1.1, hal.1.2]) (by simp [rightN, hal.2.1.1, hal.2.1.2]) hs
  · have hk : h.kind = 6 := by rw [e1]; rfl
    rw [text_call hk] at hs ⊢
    have ht : h.txt.length ≤ 20 := by
      unfold nameOk at e2
      simp only [Bool.and_eq_true, decide_eq_true_eq] at e2
      exact e2.1.1.2
    exact write_call h k hA B bb b o l w hw hr hk hal ht hs
theorem write_all : ∀ (F : Fo), WrA F
 | .nil => trivial
 | .cons h k r => ⟨write_step h k (write_all k), write_all r⟩
end Go.Proofs.YtiaoaifoecmemaaGreatDoor
