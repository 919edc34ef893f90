/-
  The contracts of the answer's Right and Check, of nodes (made by rright8gen.py).
-/
import Derived.Test.YtijjnchedgllgaaDoorFmE3
import Derived.Test.YtijjnchedgllgaaDoorFmD
import Derived.Deep.RegionHeld3
namespace Go.Proofs.YtijjnchedgllgaaDoor
open Go.RowKit Go.Shelf

set_option maxHeartbeats 1000000 in
theorem rname_all (s : ByteArray) (w : World) (hs : s.size ≤ maxLen) :
    Calls Tryd.prog 61 #[.string s] w fun e w' => e = .returned (.bool (nmB s.data.toList)) ∧ w' = w := by
  by_cases h : s.size ≤ 1024
  · exact rname_any s w h
  · have hl : s.data.toList.length = s.size := by simp
    unfold maxLen at hs
    have g0 : ¬ (s.size : Int) < 1 := by omega
    have g20 : (20 : Int) < s.size := by omega
    rw [show nmB s.data.toList = false by unfold nmB; rw [show decide (s.data.toList.length ≤ 20) = false from decide_eq_false (by omega)]; simp]
    go_enter Tryd.func61, Tryd.ntmps61
    go_wp2
    go_ret
    exact ⟨rfl, rfl⟩
/-- The contract of Right, for kids. -/
def RRightC (k : Fo) : Prop :=
  ∀ (D : Nat → Prop) (h : Hd) (v : Value) (w : World), (∀ c, D c → c < w.heap.size) → Kv w D v k → h.vs.length ≤ maxLen → h.txt.length ≤ maxLen → okF k →
    Calls Tryd.prog 43 #[.agg (hdC h v).toArray] w fun e w' => e = .returned (.bool (rightN h k)) ∧ Below w.heap.size w w'
def RRightA : Fo → Prop
  | .nil => True
  | .cons _ k r => RRightC k ∧ RRightA r
set_option maxRecDepth 100000 in
set_option maxHeartbeats 8000000 in
theorem rright_step (k : Fo) (hA : RRightA k) : RRightC k := by
  intro D h v w hD hk hv ht hok
  obtain ⟨a, n, cap, rfl, hn, hk⟩ := hk
  subst hn
  have HPl : Hid (∀ W : World, Calls Tryd.prog 57 #[.agg (hdC h (.slice a k.len cap)).toArray] W fun e w' => e = .returned (.bool (plainB h)) ∧ Below W.heap.size W w') := fun W => plain_any h a k.len cap W
  have hR : rightN h k = ((plainB h && swB h k.len) && allB k) := by unfold rightN; rw [alone_split]
  have HX0 := hide (Box.new w (hdC h (.slice a k.len cap)))
  have HB0 := hide ((Below.refl w.heap.size w).alloc (Nat.le_refl _) (.cells (hdC h (.slice a k.len cap)).toArray 44))
  have HK1 := hide hk
  have HA := hide hA
  have HOk := hide hok
  have HVS := hide hv
  have HTX := hide ht
  clear hk hA hok hv ht
  cases hp : plainB h with
  | false =>
    rw [hp] at HPl hR
    have HS : Hid (rightN h k = false) := by show _ = _; rw [hR]; simp
    clear hR hp
    go_enter Tryd.func43, Tryd.ntmps43
    go_wp2_with (first | (with_reducible refine wpl_id ?_; refine wpl_load rfl _ rfl _ rfl (by ((repeat' (first | with_reducible exact Hid.out (by assumption) | with_reducible apply Box.set | with_reducible exact Box.new _ _ | with_reducible apply Box.other | with_reducible apply Box.alloc | with_reducible apply Box.drew | with_reducible apply Box.drewN | omega)); done)) ?_) | (go_at_call 57; refine (HPl.out _).mono ?_; rintro e w1 ⟨rfl, hb1⟩; have HB1 := hide (HB0.out.trans (hb1.mono HB0.out.size)); clear hb1))
    go_ret
    exact ⟨by rw [HS.out]; rfl, HB1.out⟩
  | true =>
    rw [hp] at HPl hR
    have HRA : Hid (rightN h k = (swB h k.len && allB k)) := by show _ = _; rw [hR]; simp
    clear hR hp
    go_enter Tryd.func43, Tryd.ntmps43
    go_wp2_with (first | (with_reducible refine wpl_id ?_; refine wpl_load rfl _ rfl _ rfl (by ((repeat' (first | with_reducible exact Hid.out (by assumption) | with_reducible apply Box.set | with_reducible exact Box.new _ _ | with_reducible apply Box.other | with_reducible apply Box.alloc | with_reducible apply Box.drew | with_reducible apply Box.drewN | omega)); done)) ?_) | (go_at_call 57; refine (HPl.out _).mono ?_; rintro e w1 ⟨rfl, hb1⟩; have HB1 := hide (HB0.out.trans (hb1.mono HB0.out.size)); have HX1 := hide (HX0.out.below hb1); clear hb1))
    go_loopw [3] (fun u wr => ∃ (i : Nat) (F : Fo), u = .int .i64 (i : Int) ∧ i + F.len = k.len ∧ (F = .nil ∨ ∃ b' o', a = some ⟨b', o', none⟩ ∧ k.len ≤ cap ∧ cap ≤ maxLen ∧ Row w D F b' (o' + i * 16)) ∧ RRightA F ∧ okF F ∧ Below w.heap.size w wr ∧ Box wr w.heap.size (hdC h (.slice a k.len cap)) ∧ allB k = allB F) (fun u _ => k.len - (intOf u).toNat)
    case atStart =>
      refine ⟨0, k, rfl, by omega, ?_, HA.out, HOk.out, HB1.out, HX1.out, rfl⟩
      rcases HK1.out with e | ⟨b', o', e1, e2, e3, e4⟩
      · exact .inl e
      · exact .inr ⟨b', o', e1, e2, e3, by simpa using e4⟩
    case round =>
      obtain ⟨i, F, rfl, hl, hF, hAF, hOF, hB, hX, hq⟩ := hrel
      have HQ := hide hq
      have HB := hide hB
      have HXr := hide hX
      have hsz := hB.size
      have c15 : wr.cell? ⟨w.heap.size, 15, none⟩ = some (.slice a k.len cap) := hX.cell 15 _ rfl
      clear hq hB hX HPl HB1 HX1 HX0
      match F, hl, hF, hAF, hOF, HQ with
      | .nil, hl, _, _, _, HQ =>
        have hli : ¬ (i : Int) < (k.len : Int) := by simp [Fo.len] at hl; omega
        have HRN : Hid (rightN h k = swB h k.len) := by show _ = _; rw [HRA.out, HQ.out]; simp [allB]
        obtain ⟨c0, c1, c2, c3, c4, c5, c6, c7, c8, c9, c10, c11, c12, c13, c14⟩ := node_cells HXr.out
        clear HQ HRA HA HOk HK1 HB0 hl hD
        by_cases ek : h.kind = 1
        · have hs : rightN h k = (decide (k.len = 0) && (rightB h.vk h.vn ⟨h.vs.toArray⟩ h.vb h.vc && decide (h.vk ≠ 0) && decide (0 ≤ h.vn))) := by rw [HRN.out]; unfold swB constB; rw [if_pos ek]
          rw [ek] at c0
          clear HRN ek
          by_cases n0 : k.len = 0
          · have m0 : ((k.len : Int) == 0) = true := by simp [n0]
            have HV : Hid (∀ W : World, Calls Tryd.prog 58 #[.agg #[.int .i64 h.vk, .int .i64 h.vn, .string ⟨h.vs.toArray⟩, .bool h.vb, .int .i64 h.vc]] W fun e w' => e = .returned (.bool (rightB h.vk h.vn ⟨h.vs.toArray⟩ h.vb h.vc)) ∧ Below W.heap.size W w') := fun W => rright_any _ _ _ _ _ W (by simpa [ByteArray.size] using HVS.out)
            cases hr : rightB h.vk h.vn ⟨h.vs.toArray⟩ h.vb h.vc with
            | false =>
              rw [hr] at HV hs
              have HS : Hid (rightN h k = false) := by show _ = _; rw [hs]; simp
              clear hs hr n0
              go_wp2_with (first | (go_at_call 58; refine (HV.out _).mono ?_; rintro e w2 ⟨rfl, hb2⟩; have hbx := HB.out.trans (hb2.mono HB.out.size); obtain ⟨c0, c1, c2, c3, c4, c5, c6, c7, c8, c9, c10, c11, c12, c13, c14⟩ := node_cells (HXr.out.below hb2); clear hb2) | (go_at_call_of 59 [Value.agg #[Value.int IntKind.i64 h.row, Value.int IntKind.i64 h.col]]; refine (HP1.out _).mono ?_; rintro e w2 ⟨rfl, hw2⟩; have hb2 : Below wr.heap.size wr w2 := by { rw [hw2]; exact (Below.refl _ _).alloc (Nat.le_refl _) _ }; clear hw2; have hbx := HB.out.trans (hb2.mono HB.out.size); obtain ⟨c0, c1, c2, c3, c4, c5, c6, c7, c8, c9, c10, c11, c12, c13, c14⟩ := node_cells (HXr.out.below hb2); clear hb2) | (go_at_call_of 59 [Value.agg #[Value.int IntKind.i64 h.row2, Value.int IntKind.i64 h.col2]]; refine (HP2.out _).mono ?_; rintro e w3 ⟨rfl, hw3⟩; have hby := hbx.trans ((show Below w2.heap.size w2 w3 by { rw [hw3]; exact (Below.refl _ _).alloc (Nat.le_refl _) _ }).mono hbx.size); clear hw3) | (go_at_call 60; refine (HLn.out _).mono ?_; rintro e w2 ⟨rfl, hw2⟩; subst w2) | (go_at_call 61; refine (HNm.out _).mono ?_; rintro e w2 ⟨rfl, hw2⟩; subst w2) | (go_at_call 62; refine (HFd.out _).mono ?_; rintro e w3 ⟨rfl, hb3⟩; have hbx := HB.out.trans (hb3.mono HB.out.size); obtain ⟨c0, c1, c2, c3, c4, c5, c6, c7, c8, c9, c10, c11, c12, c13, c14⟩ := node_cells (HXr.out.below hb3); clear hb3))
              go_ret
              exact ⟨by rw [HS.out]; rfl, hbx⟩
            | true =>
              rw [hr] at HV hs
              by_cases v0 : h.vk = 0
              · have q0 : (h.vk != 0) = false := by simp [v0]
                have HS : Hid (rightN h k = false) := by show _ = _; rw [hs]; simp [v0]
                clear hs hr n0 v0
                go_wp2_with (first | (go_at_call 58; refine (HV.out _).mono ?_; rintro e w2 ⟨rfl, hb2⟩; have hbx := HB.out.trans (hb2.mono HB.out.size); obtain ⟨c0, c1, c2, c3, c4, c5, c6, c7, c8, c9, c10, c11, c12, c13, c14⟩ := node_cells (HXr.out.below hb2); clear hb2) | (go_at_call_of 59 [Value.agg #[Value.int IntKind.i64 h.row, Value.int IntKind.i64 h.col]]; refine (HP1.out _).mono ?_; rintro e w2 ⟨rfl, hw2⟩; have hb2 : Below wr.heap.size wr w2 := by { rw [hw2]; exact (Below.refl _ _).alloc (Nat.le_refl _) _ }; clear hw2; have hbx := HB.out.trans (hb2.mono HB.out.size); obtain ⟨c0, c1, c2, c3, c4, c5, c6, c7, c8, c9, c10, c11, c12, c13, c14⟩ := node_cells (HXr.out.below hb2); clear hb2) | (go_at_call_of 59 [Value.agg #[Value.int IntKind.i64 h.row2, Value.int IntKind.i64 h.col2]]; refine (HP2.out _).mono ?_; rintro e w3 ⟨rfl, hw3⟩; have hby := hbx.trans ((show Below w2.heap.size w2 w3 by { rw [hw3]; exact (Below.refl _ _).alloc (Nat.le_refl _) _ }).mono hbx.size); clear hw3) | (go_at_call 60; refine (HLn.out _).mono ?_; rintro e w2 ⟨rfl, hw2⟩; subst w2) | (go_at_call 61; refine (HNm.out _).mono ?_; rintro e w2 ⟨rfl, hw2⟩; subst w2) | (go_at_call 62; refine (HFd.out _).mono ?_; rintro e w3 ⟨rfl, hb3⟩; have hbx := HB.out.trans (hb3.mono HB.out.size); obtain ⟨c0, c1, c2, c3, c4, c5, c6, c7, c8, c9, c10, c11, c12, c13, c14⟩ := node_cells (HXr.out.below hb3); clear hb3))
                go_ret
                exact ⟨by rw [HS.out]; rfl, hbx⟩
              · have q0 : (h.vk != 0) = true := by simpa using v0
                have HS : Hid (rightN h k = decide (0 ≤ h.vn)) := by show _ = _; rw [hs]; simp [v0, n0]
                clear hs hr n0 v0
                go_wp2_with (first | (go_at_call 58; refine (HV.out _).mono ?_; rintro e w2 ⟨rfl, hb2⟩; have hbx := HB.out.trans (hb2.mono HB.out.size); obtain ⟨c0, c1, c2, c3, c4, c5, c6, c7, c8, c9, c10, c11, c12, c13, c14⟩ := node_cells (HXr.out.below hb2); clear hb2) | (go_at_call_of 59 [Value.agg #[Value.int IntKind.i64 h.row, Value.int IntKind.i64 h.col]]; refine (HP1.out _).mono ?_; rintro e w2 ⟨rfl, hw2⟩; have hb2 : Below wr.heap.size wr w2 := by { rw [hw2]; exact (Below.refl _ _).alloc (Nat.le_refl _) _ }; clear hw2; have hbx := HB.out.trans (hb2.mono HB.out.size); obtain ⟨c0, c1, c2, c3, c4, c5, c6, c7, c8, c9, c10, c11, c12, c13, c14⟩ := node_cells (HXr.out.below hb2); clear hb2) | (go_at_call_of 59 [Value.agg #[Value.int IntKind.i64 h.row2, Value.int IntKind.i64 h.col2]]; refine (HP2.out _).mono ?_; rintro e w3 ⟨rfl, hw3⟩; have hby := hbx.trans ((show Below w2.heap.size w2 w3 by { rw [hw3]; exact (Below.refl _ _).alloc (Nat.le_refl _) _ }).mono hbx.size); clear hw3) | (go_at_call 60; refine (HLn.out _).mono ?_; rintro e w2 ⟨rfl, hw2⟩; subst w2) | (go_at_call 61; refine (HNm.out _).mono ?_; rintro e w2 ⟨rfl, hw2⟩; subst w2) | (go_at_call 62; refine (HFd.out _).mono ?_; rintro e w3 ⟨rfl, hb3⟩; have hbx := HB.out.trans (hb3.mono HB.out.size); obtain ⟨c0, c1, c2, c3, c4, c5, c6, c7, c8, c9, c10, c11, c12, c13, c14⟩ := node_cells (HXr.out.below hb3); clear hb3))
                go_ret
                exact ⟨by rw [HS.out]; rfl, hbx⟩
          · have m0 : ((k.len : Int) == 0) = false := by simpa using n0
            have HS : Hid (rightN h k = false) := by show _ = _; rw [hs]; simp [n0]
            clear hs n0
            go_wp2_with (first | (go_at_call 58; refine (HV.out _).mono ?_; rintro e w2 ⟨rfl, hb2⟩; have hbx := HB.out.trans (hb2.mono HB.out.size); obtain ⟨c0, c1, c2, c3, c4, c5, c6, c7, c8, c9, c10, c11, c12, c13, c14⟩ := node_cells (HXr.out.below hb2); clear hb2) | (go_at_call_of 59 [Value.agg #[Value.int IntKind.i64 h.row, Value.int IntKind.i64 h.col]]; refine (HP1.out _).mono ?_; rintro e w2 ⟨rfl, hw2⟩; have hb2 : Below wr.heap.size wr w2 := by { rw [hw2]; exact (Below.refl _ _).alloc (Nat.le_refl _) _ }; clear hw2; have hbx := HB.out.trans (hb2.mono HB.out.size); obtain ⟨c0, c1, c2, c3, c4, c5, c6, c7, c8, c9, c10, c11, c12, c13, c14⟩ := node_cells (HXr.out.below hb2); clear hb2) | (go_at_call_of 59 [Value.agg #[Value.int IntKind.i64 h.row2, Value.int IntKind.i64 h.col2]]; refine (HP2.out _).mono ?_; rintro e w3 ⟨rfl, hw3⟩; have hby := hbx.trans ((show Below w2.heap.size w2 w3 by { rw [hw3]; exact (Below.refl _ _).alloc (Nat.le_refl _) _ }).mono hbx.size); clear hw3) | (go_at_call 60; refine (HLn.out _).mono ?_; rintro e w2 ⟨rfl, hw2⟩; subst w2) | (go_at_call 61; refine (HNm.out _).mono ?_; rintro e w2 ⟨rfl, hw2⟩; subst w2) | (go_at_call 62; refine (HFd.out _).mono ?_; rintro e w3 ⟨rfl, hb3⟩; have hbx := HB.out.trans (hb3.mono HB.out.size); obtain ⟨c0, c1, c2, c3, c4, c5, c6, c7, c8, c9, c10, c11, c12, c13, c14⟩ := node_cells (HXr.out.below hb3); clear hb3))
            go_ret
            exact ⟨by rw [HS.out]; rfl, HB.out⟩
        have k1' := ek
        clear ek
        by_cases ek : h.kind = 2
        · have hs : rightN h k = (decide (k.len = 0) && Pla.placeB h.row h.col) := by rw [HRN.out]; unfold swB; rw [if_neg (by omega), if_pos ek]
          rw [ek] at c0
          clear HRN ek
          by_cases n0 : k.len = 0
          · have m0 : ((k.len : Int) == 0) = true := by simp [n0]
            have HP1 : Hid (∀ W : World, Calls Tryd.prog 59 #[.agg #[.int .i64 h.row, .int .i64 h.col]] W fun e w' => e = .returned (.bool (Pla.placeB h.row h.col)) ∧ w' = W.alloc (.cells #[.int .i64 h.row, .int .i64 h.col] 39)) := fun W => Pla.rplace_any _ _ W
            have HS : Hid (rightN h k = Pla.placeB h.row h.col) := by show _ = _; rw [hs]; simp [n0]
            clear hs n0
            generalize Pla.placeB h.row h.col = pb at *
            go_wp2_with (first | (go_at_call 58; refine (HV.out _).mono ?_; rintro e w2 ⟨rfl, hb2⟩; have hbx := HB.out.trans (hb2.mono HB.out.size); obtain ⟨c0, c1, c2, c3, c4, c5, c6, c7, c8, c9, c10, c11, c12, c13, c14⟩ := node_cells (HXr.out.below hb2); clear hb2) | (go_at_call_of 59 [Value.agg #[Value.int IntKind.i64 h.row, Value.int IntKind.i64 h.col]]; refine (HP1.out _).mono ?_; rintro e w2 ⟨rfl, hw2⟩; have hb2 : Below wr.heap.size wr w2 := by { rw [hw2]; exact (Below.refl _ _).alloc (Nat.le_refl _) _ }; clear hw2; have hbx := HB.out.trans (hb2.mono HB.out.size); obtain ⟨c0, c1, c2, c3, c4, c5, c6, c7, c8, c9, c10, c11, c12, c13, c14⟩ := node_cells (HXr.out.below hb2); clear hb2) | (go_at_call_of 59 [Value.agg #[Value.int IntKind.i64 h.row2, Value.int IntKind.i64 h.col2]]; refine (HP2.out _).mono ?_; rintro e w3 ⟨rfl, hw3⟩; have hby := hbx.trans ((show Below w2.heap.size w2 w3 by { rw [hw3]; exact (Below.refl _ _).alloc (Nat.le_refl _) _ }).mono hbx.size); clear hw3) | (go_at_call 60; refine (HLn.out _).mono ?_; rintro e w2 ⟨rfl, hw2⟩; subst w2) | (go_at_call 61; refine (HNm.out _).mono ?_; rintro e w2 ⟨rfl, hw2⟩; subst w2) | (go_at_call 62; refine (HFd.out _).mono ?_; rintro e w3 ⟨rfl, hb3⟩; have hbx := HB.out.trans (hb3.mono HB.out.size); obtain ⟨c0, c1, c2, c3, c4, c5, c6, c7, c8, c9, c10, c11, c12, c13, c14⟩ := node_cells (HXr.out.below hb3); clear hb3))
            go_ret
            exact ⟨by rw [HS.out]; rfl, hbx⟩
          · have m0 : ((k.len : Int) == 0) = false := by simpa using n0
            have HS : Hid (rightN h k = false) := by show _ = _; rw [hs]; simp [n0]
            clear hs n0
            go_wp2_with (first | (go_at_call 58; refine (HV.out _).mono ?_; rintro e w2 ⟨rfl, hb2⟩; have hbx := HB.out.trans (hb2.mono HB.out.size); obtain ⟨c0, c1, c2, c3, c4, c5, c6, c7, c8, c9, c10, c11, c12, c13, c14⟩ := node_cells (HXr.out.below hb2); clear hb2) | (go_at_call_of 59 [Value.agg #[Value.int IntKind.i64 h.row, Value.int IntKind.i64 h.col]]; refine (HP1.out _).mono ?_; rintro e w2 ⟨rfl, hw2⟩; have hb2 : Below wr.heap.size wr w2 := by { rw [hw2]; exact (Below.refl _ _).alloc (Nat.le_refl _) _ }; clear hw2; have hbx := HB.out.trans (hb2.mono HB.out.size); obtain ⟨c0, c1, c2, c3, c4, c5, c6, c7, c8, c9, c10, c11, c12, c13, c14⟩ := node_cells (HXr.out.below hb2); clear hb2) | (go_at_call_of 59 [Value.agg #[Value.int IntKind.i64 h.row2, Value.int IntKind.i64 h.col2]]; refine (HP2.out _).mono ?_; rintro e w3 ⟨rfl, hw3⟩; have hby := hbx.trans ((show Below w2.heap.size w2 w3 by { rw [hw3]; exact (Below.refl _ _).alloc (Nat.le_refl _) _ }).mono hbx.size); clear hw3) | (go_at_call 60; refine (HLn.out _).mono ?_; rintro e w2 ⟨rfl, hw2⟩; subst w2) | (go_at_call 61; refine (HNm.out _).mono ?_; rintro e w2 ⟨rfl, hw2⟩; subst w2) | (go_at_call 62; refine (HFd.out _).mono ?_; rintro e w3 ⟨rfl, hb3⟩; have hbx := HB.out.trans (hb3.mono HB.out.size); obtain ⟨c0, c1, c2, c3, c4, c5, c6, c7, c8, c9, c10, c11, c12, c13, c14⟩ := node_cells (HXr.out.below hb3); clear hb3))
            go_ret
            exact ⟨by rw [HS.out]; rfl, HB.out⟩
        have k2' := ek
        clear ek
        by_cases ek : h.kind = 3
        · have hs : rightN h k = (decide (k.len = 0) && Pla.placeB h.row h.col && Pla.placeB h.row2 h.col2) := by rw [HRN.out]; unfold swB; rw [if_neg (by omega), if_neg (by omega), if_pos ek]
          rw [ek] at c0
          clear HRN ek
          by_cases n0 : k.len = 0
          · have m0 : ((k.len : Int) == 0) = true := by simp [n0]
            have HP1 : Hid (∀ W : World, Calls Tryd.prog 59 #[.agg #[.int .i64 h.row, .int .i64 h.col]] W fun e w' => e = .returned (.bool (Pla.placeB h.row h.col)) ∧ w' = W.alloc (.cells #[.int .i64 h.row, .int .i64 h.col] 39)) := fun W => Pla.rplace_any _ _ W
            have HP2 : Hid (∀ W : World, Calls Tryd.prog 59 #[.agg #[.int .i64 h.row2, .int .i64 h.col2]] W fun e w' => e = .returned (.bool (Pla.placeB h.row2 h.col2)) ∧ w' = W.alloc (.cells #[.int .i64 h.row2, .int .i64 h.col2] 39)) := fun W => Pla.rplace_any _ _ W
            cases hp : Pla.placeB h.row h.col with
            | false =>
              rw [hp] at HP1 hs
              have HS : Hid (rightN h k = false) := by show _ = _; rw [hs]; simp
              clear hs n0 hp
              go_wp2_with (first | (go_at_call 58; refine (HV.out _).mono ?_; rintro e w2 ⟨rfl, hb2⟩; have hbx := HB.out.trans (hb2.mono HB.out.size); obtain ⟨c0, c1, c2, c3, c4, c5, c6, c7, c8, c9, c10, c11, c12, c13, c14⟩ := node_cells (HXr.out.below hb2); clear hb2) | (go_at_call_of 59 [Value.agg #[Value.int IntKind.i64 h.row, Value.int IntKind.i64 h.col]]; refine (HP1.out _).mono ?_; rintro e w2 ⟨rfl, hw2⟩; have hb2 : Below wr.heap.size wr w2 := by { rw [hw2]; exact (Below.refl _ _).alloc (Nat.le_refl _) _ }; clear hw2; have hbx := HB.out.trans (hb2.mono HB.out.size); obtain ⟨c0, c1, c2, c3, c4, c5, c6, c7, c8, c9, c10, c11, c12, c13, c14⟩ := node_cells (HXr.out.below hb2); clear hb2) | (go_at_call_of 59 [Value.agg #[Value.int IntKind.i64 h.row2, Value.int IntKind.i64 h.col2]]; refine (HP2.out _).mono ?_; rintro e w3 ⟨rfl, hw3⟩; have hby := hbx.trans ((show Below w2.heap.size w2 w3 by { rw [hw3]; exact (Below.refl _ _).alloc (Nat.le_refl _) _ }).mono hbx.size); clear hw3) | (go_at_call 60; refine (HLn.out _).mono ?_; rintro e w2 ⟨rfl, hw2⟩; subst w2) | (go_at_call 61; refine (HNm.out _).mono ?_; rintro e w2 ⟨rfl, hw2⟩; subst w2) | (go_at_call 62; refine (HFd.out _).mono ?_; rintro e w3 ⟨rfl, hb3⟩; have hbx := HB.out.trans (hb3.mono HB.out.size); obtain ⟨c0, c1, c2, c3, c4, c5, c6, c7, c8, c9, c10, c11, c12, c13, c14⟩ := node_cells (HXr.out.below hb3); clear hb3))
              go_ret
              exact ⟨by rw [HS.out]; rfl, hbx⟩
            | true =>
              rw [hp] at HP1 hs
              have HS : Hid (rightN h k = Pla.placeB h.row2 h.col2) := by show _ = _; rw [hs]; simp [n0]
              clear hs n0 hp
              generalize Pla.placeB h.row2 h.col2 = pb at *
              go_wp2_with (first | (go_at_call 58; refine (HV.out _).mono ?_; rintro e w2 ⟨rfl, hb2⟩; have hbx := HB.out.trans (hb2.mono HB.out.size); obtain ⟨c0, c1, c2, c3, c4, c5, c6, c7, c8, c9, c10, c11, c12, c13, c14⟩ := node_cells (HXr.out.below hb2); clear hb2) | (go_at_call_of 59 [Value.agg #[Value.int IntKind.i64 h.row, Value.int IntKind.i64 h.col]]; refine (HP1.out _).mono ?_; rintro e w2 ⟨rfl, hw2⟩; have hb2 : Below wr.heap.size wr w2 := by { rw [hw2]; exact (Below.refl _ _).alloc (Nat.le_refl _) _ }; clear hw2; have hbx := HB.out.trans (hb2.mono HB.out.size); obtain ⟨c0, c1, c2, c3, c4, c5, c6, c7, c8, c9, c10, c11, c12, c13, c14⟩ := node_cells (HXr.out.below hb2); clear hb2) | (go_at_call_of 59 [Value.agg #[Value.int IntKind.i64 h.row2, Value.int IntKind.i64 h.col2]]; refine (HP2.out _).mono ?_; rintro e w3 ⟨rfl, hw3⟩; have hby := hbx.trans ((show Below w2.heap.size w2 w3 by { rw [hw3]; exact (Below.refl _ _).alloc (Nat.le_refl _) _ }).mono hbx.size); clear hw3) | (go_at_call 60; refine (HLn.out _).mono ?_; rintro e w2 ⟨rfl, hw2⟩; subst w2) | (go_at_call 61; refine (HNm.out _).mono ?_; rintro e w2 ⟨rfl, hw2⟩; subst w2) | (go_at_call 62; refine (HFd.out _).mono ?_; rintro e w3 ⟨rfl, hb3⟩; have hbx := HB.out.trans (hb3.mono HB.out.size); obtain ⟨c0, c1, c2, c3, c4, c5, c6, c7, c8, c9, c10, c11, c12, c13, c14⟩ := node_cells (HXr.out.below hb3); clear hb3))
              go_ret
              exact ⟨by rw [HS.out]; rfl, hby⟩
          · have m0 : ((k.len : Int) == 0) = false := by simpa using n0
            have HS : Hid (rightN h k = false) := by show _ = _; rw [hs]; simp [n0]
            clear hs n0
            go_wp2_with (first | (go_at_call 58; refine (HV.out _).mono ?_; rintro e w2 ⟨rfl, hb2⟩; have hbx := HB.out.trans (hb2.mono HB.out.size); obtain ⟨c0, c1, c2, c3, c4, c5, c6, c7, c8, c9, c10, c11, c12, c13, c14⟩ := node_cells (HXr.out.below hb2); clear hb2) | (go_at_call_of 59 [Value.agg #[Value.int IntKind.i64 h.row, Value.int IntKind.i64 h.col]]; refine (HP1.out _).mono ?_; rintro e w2 ⟨rfl, hw2⟩; have hb2 : Below wr.heap.size wr w2 := by { rw [hw2]; exact (Below.refl _ _).alloc (Nat.le_refl _) _ }; clear hw2; have hbx := HB.out.trans (hb2.mono HB.out.size); obtain ⟨c0, c1, c2, c3, c4, c5, c6, c7, c8, c9, c10, c11, c12, c13, c14⟩ := node_cells (HXr.out.below hb2); clear hb2) | (go_at_call_of 59 [Value.agg #[Value.int IntKind.i64 h.row2, Value.int IntKind.i64 h.col2]]; refine (HP2.out _).mono ?_; rintro e w3 ⟨rfl, hw3⟩; have hby := hbx.trans ((show Below w2.heap.size w2 w3 by { rw [hw3]; exact (Below.refl _ _).alloc (Nat.le_refl _) _ }).mono hbx.size); clear hw3) | (go_at_call 60; refine (HLn.out _).mono ?_; rintro e w2 ⟨rfl, hw2⟩; subst w2) | (go_at_call 61; refine (HNm.out _).mono ?_; rintro e w2 ⟨rfl, hw2⟩; subst w2) | (go_at_call 62; refine (HFd.out _).mono ?_; rintro e w3 ⟨rfl, hb3⟩; have hbx := HB.out.trans (hb3.mono HB.out.size); obtain ⟨c0, c1, c2, c3, c4, c5, c6, c7, c8, c9, c10, c11, c12, c13, c14⟩ := node_cells (HXr.out.below hb3); clear hb3))
            go_ret
            exact ⟨by rw [HS.out]; rfl, HB.out⟩
        have k3' := ek
        clear ek
        by_cases ek : h.kind = 4
        · have hs : rightN h k = decide (k.len = 1) := by rw [HRN.out]; unfold swB; rw [if_neg (by omega), if_neg (by omega), if_neg (by omega), if_pos ek]
          rw [ek] at c0
          clear HRN ek
          have HS : Hid (rightN h k = ((k.len : Int) == 1)) := by
            show _ = _
            rw [hs, Bool.eq_iff_iff]
            simp
            omega
          clear hs
          go_wp2_with (first | (go_at_call 58; refine (HV.out _).mono ?_; rintro e w2 ⟨rfl, hb2⟩; have hbx := HB.out.trans (hb2.mono HB.out.size); obtain ⟨c0, c1, c2, c3, c4, c5, c6, c7, c8, c9, c10, c11, c12, c13, c14⟩ := node_cells (HXr.out.below hb2); clear hb2) | (go_at_call_of 59 [Value.agg #[Value.int IntKind.i64 h.row, Value.int IntKind.i64 h.col]]; refine (HP1.out _).mono ?_; rintro e w2 ⟨rfl, hw2⟩; have hb2 : Below wr.heap.size wr w2 := by { rw [hw2]; exact (Below.refl _ _).alloc (Nat.le_refl _) _ }; clear hw2; have hbx := HB.out.trans (hb2.mono HB.out.size); obtain ⟨c0, c1, c2, c3, c4, c5, c6, c7, c8, c9, c10, c11, c12, c13, c14⟩ := node_cells (HXr.out.below hb2); clear hb2) | (go_at_call_of 59 [Value.agg #[Value.int IntKind.i64 h.row2, Value.int IntKind.i64 h.col2]]; refine (HP2.out _).mono ?_; rintro e w3 ⟨rfl, hw3⟩; have hby := hbx.trans ((show Below w2.heap.size w2 w3 by { rw [hw3]; exact (Below.refl _ _).alloc (Nat.le_refl _) _ }).mono hbx.size); clear hw3) | (go_at_call 60; refine (HLn.out _).mono ?_; rintro e w2 ⟨rfl, hw2⟩; subst w2) | (go_at_call 61; refine (HNm.out _).mono ?_; rintro e w2 ⟨rfl, hw2⟩; subst w2) | (go_at_call 62; refine (HFd.out _).mono ?_; rintro e w3 ⟨rfl, hb3⟩; have hbx := HB.out.trans (hb3.mono HB.out.size); obtain ⟨c0, c1, c2, c3, c4, c5, c6, c7, c8, c9, c10, c11, c12, c13, c14⟩ := node_cells (HXr.out.below hb3); clear hb3))
          go_ret
          exact ⟨by rw [HS.out]; rfl, HB.out⟩
        have k4' := ek
        clear ek
        by_cases ek : h.kind = 5
        · have hs : rightN h k = (decide (k.len = 2) && decide (0 < bindN h.txt)) := by rw [HRN.out]; unfold swB; rw [if_neg (by omega), if_neg (by omega), if_neg (by omega), if_neg (by omega), if_pos ek]
          rw [ek] at c0
          clear HRN ek
          have HLn : Hid (∀ W : World, Calls Tryd.prog 60 #[.string ⟨h.txt.toArray⟩] W fun e w' => e = .returned (.int .i64 ((bindN h.txt : Int) - 1)) ∧ w' = W) := fun W => line_any ⟨h.txt.toArray⟩ W
          by_cases n0 : k.len = 2
          · have m0 : ((k.len : Int) == 2) = true := by simp [n0]
            have HS : Hid (rightN h k = decide ((0 : Int) ≤ (bindN h.txt : Int) - 1)) := by
              show _ = _
              rw [hs, Bool.eq_iff_iff]
              simp [n0]
              omega
            clear hs n0
            generalize (bindN h.txt : Int) - 1 = bb at *
            go_wp2_with (first | (go_at_call 58; refine (HV.out _).mono ?_; rintro e w2 ⟨rfl, hb2⟩; have hbx := HB.out.trans (hb2.mono HB.out.size); obtain ⟨c0, c1, c2, c3, c4, c5, c6, c7, c8, c9, c10, c11, c12, c13, c14⟩ := node_cells (HXr.out.below hb2); clear hb2) | (go_at_call_of 59 [Value.agg #[Value.int IntKind.i64 h.row, Value.int IntKind.i64 h.col]]; refine (HP1.out _).mono ?_; rintro e w2 ⟨rfl, hw2⟩; have hb2 : Below wr.heap.size wr w2 := by { rw [hw2]; exact (Below.refl _ _).alloc (Nat.le_refl _) _ }; clear hw2; have hbx := HB.out.trans (hb2.mono HB.out.size); obtain ⟨c0, c1, c2, c3, c4, c5, c6, c7, c8, c9, c10, c11, c12, c13, c14⟩ := node_cells (HXr.out.below hb2); clear hb2) | (go_at_call_of 59 [Value.agg #[Value.int IntKind.i64 h.row2, Value.int IntKind.i64 h.col2]]; refine (HP2.out _).mono ?_; rintro e w3 ⟨rfl, hw3⟩; have hby := hbx.trans ((show Below w2.heap.size w2 w3 by { rw [hw3]; exact (Below.refl _ _).alloc (Nat.le_refl _) _ }).mono hbx.size); clear hw3) | (go_at_call 60; refine (HLn.out _).mono ?_; rintro e w2 ⟨rfl, hw2⟩; subst w2) | (go_at_call 61; refine (HNm.out _).mono ?_; rintro e w2 ⟨rfl, hw2⟩; subst w2) | (go_at_call 62; refine (HFd.out _).mono ?_; rintro e w3 ⟨rfl, hb3⟩; have hbx := HB.out.trans (hb3.mono HB.out.size); obtain ⟨c0, c1, c2, c3, c4, c5, c6, c7, c8, c9, c10, c11, c12, c13, c14⟩ := node_cells (HXr.out.below hb3); clear hb3))
            go_ret
            exact ⟨by rw [HS.out]; rfl, HB.out⟩
          · have m0 : ((k.len : Int) == 2) = false := by simp; omega
            have HS : Hid (rightN h k = false) := by show _ = _; rw [hs]; simp [n0]
            clear hs n0
            go_wp2_with (first | (go_at_call 58; refine (HV.out _).mono ?_; rintro e w2 ⟨rfl, hb2⟩; have hbx := HB.out.trans (hb2.mono HB.out.size); obtain ⟨c0, c1, c2, c3, c4, c5, c6, c7, c8, c9, c10, c11, c12, c13, c14⟩ := node_cells (HXr.out.below hb2); clear hb2) | (go_at_call_of 59 [Value.agg #[Value.int IntKind.i64 h.row, Value.int IntKind.i64 h.col]]; refine (HP1.out _).mono ?_; rintro e w2 ⟨rfl, hw2⟩; have hb2 : Below wr.heap.size wr w2 := by { rw [hw2]; exact (Below.refl _ _).alloc (Nat.le_refl _) _ }; clear hw2; have hbx := HB.out.trans (hb2.mono HB.out.size); obtain ⟨c0, c1, c2, c3, c4, c5, c6, c7, c8, c9, c10, c11, c12, c13, c14⟩ := node_cells (HXr.out.below hb2); clear hb2) | (go_at_call_of 59 [Value.agg #[Value.int IntKind.i64 h.row2, Value.int IntKind.i64 h.col2]]; refine (HP2.out _).mono ?_; rintro e w3 ⟨rfl, hw3⟩; have hby := hbx.trans ((show Below w2.heap.size w2 w3 by { rw [hw3]; exact (Below.refl _ _).alloc (Nat.le_refl _) _ }).mono hbx.size); clear hw3) | (go_at_call 60; refine (HLn.out _).mono ?_; rintro e w2 ⟨rfl, hw2⟩; subst w2) | (go_at_call 61; refine (HNm.out _).mono ?_; rintro e w2 ⟨rfl, hw2⟩; subst w2) | (go_at_call 62; refine (HFd.out _).mono ?_; rintro e w3 ⟨rfl, hb3⟩; have hbx := HB.out.trans (hb3.mono HB.out.size); obtain ⟨c0, c1, c2, c3, c4, c5, c6, c7, c8, c9, c10, c11, c12, c13, c14⟩ := node_cells (HXr.out.below hb3); clear hb3))
            go_ret
            exact ⟨by rw [HS.out]; rfl, HB.out⟩
        have k5' := ek
        clear ek
        by_cases ek : h.kind = 6
        · have hs : rightN h k = (nmB h.txt && decide (foldL h.txt = h.txt)) := by rw [HRN.out]; unfold swB; rw [if_neg (by omega), if_neg (by omega), if_neg (by omega), if_neg (by omega), if_neg (by omega), if_pos ek]
          rw [ek] at c0
          clear HRN ek
          have HNm : Hid (∀ W : World, Calls Tryd.prog 61 #[.string ⟨h.txt.toArray⟩] W fun e w' => e = .returned (.bool (nmB h.txt)) ∧ w' = W) := fun W => rname_all ⟨h.txt.toArray⟩ W (by simpa [ByteArray.size] using HTX.out)
          have HFd : Hid (∀ W : World, Calls Tryd.prog 62 #[.string ⟨h.txt.toArray⟩] W fun e w' => e = .returned (.string ⟨(foldL h.txt).toArray⟩) ∧ Below W.heap.size W w') := fun W => rfold_any ⟨h.txt.toArray⟩ W (by simpa [ByteArray.size] using HTX.out)
          cases hn : nmB h.txt with
          | false =>
            rw [hn] at HNm hs
            have HS : Hid (rightN h k = false) := by show _ = _; rw [hs]; simp
            clear hs hn
            have hsd : wr.drew.cell? ⟨w.heap.size, 14, none⟩ = some (.string ⟨h.txt.toArray⟩) := c14
            go_wp2
            refine wp_region_held_drew (S := fun W => W.cell? ⟨w.heap.size, 14, none⟩ = some (.string ⟨h.txt.toArray⟩)) (by kernel_rfl) hsd (fun hHeld => ?_)
            (refine takeD (i := 0) (some 96) rfl rfl (by kernel_rfl) (by kernel_rfl) (by kernel_rfl) (fun _ _ _ h => h) (v := ?_) rfl ?_ (by assumption) ?_; rotate_left; (focus (intro w hSw; (try dsimp only at hSw); first | (go_simp; done) | (go_simp; with_reducible rfl))); try simp only [Act.put, List.setIfInBounds_toArray, List.set_cons_zero, List.set_cons_succ]); (refine takeD (i := 1) (some 97) rfl rfl (by kernel_rfl) (by kernel_rfl) (by kernel_rfl) (fun _ _ _ h => h) (v := ?_) rfl ?_ (by assumption) ?_; rotate_left; (focus (intro w hSw; (try dsimp only at hSw); first | (go_simp; done) | (go_simp; with_reducible rfl))); try simp only [Act.put, List.setIfInBounds_toArray, List.set_cons_zero, List.set_cons_succ])
            (refine wpAnyH_ready (rs := [2]) (by kernel_rfl) (by simp) ?_; refine AllReadyH.cons (o := _) rfl (fun K hK => ?_) AllReadyH.nil; go_simp; go_at_call 61; refine (HNm.out _).mono ?_; rintro e w2 ⟨rfl, hw2⟩; subst w2; refine hK.out _ _ hsd (fun hHeld => ?_); clear hK K; try simp only [Act.put, List.setIfInBounds_toArray, List.set_cons_zero, List.set_cons_succ])
            (refine takeD (i := 3) (some 99) rfl rfl (by kernel_rfl) (by kernel_rfl) (by kernel_rfl) (fun _ _ _ h => h) (v := ?_) rfl ?_ (by assumption) ?_; rotate_left; (focus (intro w hSw; (try dsimp only at hSw); first | (go_simp; done) | (go_simp; with_reducible rfl))); try simp only [Act.put, List.setIfInBounds_toArray, List.set_cons_zero, List.set_cons_succ])
            (refine skipD (i := 4) (some 100) rfl rfl (by kernel_rfl) (by kernel_rfl) (by kernel_rfl) (fun _ _ _ h => h) rfl (by assumption) ?_; try simp only [Act.put, List.setIfInBounds_toArray, List.set_cons_zero, List.set_cons_succ]); (refine skipD (i := 5) (some 101) rfl rfl (by kernel_rfl) (by kernel_rfl) (by kernel_rfl) (fun _ _ _ h => h) rfl (by assumption) ?_; try simp only [Act.put, List.setIfInBounds_toArray, List.set_cons_zero, List.set_cons_succ]); (refine skipD (i := 6) (some 102) rfl rfl (by kernel_rfl) (by kernel_rfl) (by kernel_rfl) (fun _ _ _ h => h) rfl (by assumption) ?_; try simp only [Act.put, List.setIfInBounds_toArray, List.set_cons_zero, List.set_cons_succ]); (refine skipD (i := 7) (some 103) rfl rfl (by kernel_rfl) (by kernel_rfl) (by kernel_rfl) (fun _ _ _ h => h) rfl (by assumption) ?_; try simp only [Act.put, List.setIfInBounds_toArray, List.set_cons_zero, List.set_cons_succ]); (refine skipD (i := 8) (some 104) rfl rfl (by kernel_rfl) (by kernel_rfl) (by kernel_rfl) (fun _ _ _ h => h) rfl (by assumption) ?_; try simp only [Act.put, List.setIfInBounds_toArray, List.set_cons_zero, List.set_cons_succ]); (refine skipD (i := 9) (some 105) rfl rfl (by kernel_rfl) (by kernel_rfl) (by kernel_rfl) (fun _ _ _ h => h) rfl (by assumption) ?_; try simp only [Act.put, List.setIfInBounds_toArray, List.set_cons_zero, List.set_cons_succ])
            (refine takeD (i := 10) (some 106) rfl rfl (by kernel_rfl) (by kernel_rfl) (by kernel_rfl) (fun _ _ _ h => h) (v := ?_) rfl ?_ (by assumption) ?_; rotate_left; (focus (intro w hSw; (try dsimp only at hSw); first | (go_simp; done) | (go_simp; with_reducible rfl))); try simp only [Act.put, List.setIfInBounds_toArray, List.set_cons_zero, List.set_cons_succ]); (refine takeD (i := 11) (some 2) rfl rfl (by kernel_rfl) (by kernel_rfl) (by kernel_rfl) (fun _ _ _ h => h) (v := ?_) rfl ?_ (by assumption) ?_; rotate_left; (focus (intro w hSw; (try dsimp only at hSw); first | (go_simp; done) | (go_simp; with_reducible rfl))); try simp only [Act.put, List.setIfInBounds_toArray, List.set_cons_zero, List.set_cons_succ])
            refine wpAnyH_done (by kernel_rfl) ?_ _
            go_wp2
            go_ret
            exact ⟨by rw [HS.out]; rfl, HB.out.drew⟩
          | true =>
            rw [hn] at HNm hs
            have HS : Hid (rightN h k = (foldL h.txt == h.txt)) := by
              show _ = _
              rw [hs, Bool.eq_iff_iff]
              simp
            clear hs hn
            generalize foldL h.txt = fl at *
            have HS6 : Hid (∀ W, Below wr.heap.size wr W → Below wr.heap.size wr W ∧ W.cell? ⟨w.heap.size, 14, none⟩ = some (.string ⟨h.txt.toArray⟩)) := fun W hW => ⟨hW, (hW.cell (p := ⟨w.heap.size, 14, none⟩) HXr.out.lt).trans c14⟩
            have hs0 := HS6.out wr (Below.refl _ _)
            have hs1 : Below wr.heap.size wr wr.drew ∧ wr.drew.cell? ⟨w.heap.size, 14, none⟩ = some (.string ⟨h.txt.toArray⟩) := HS6.out wr.drew (Below.refl _ _).drew
            go_wp2
            go_region_held3 (fun W => Below wr.heap.size wr W ∧ W.cell? ⟨w.heap.size, 14, none⟩ = some (.string ⟨h.txt.toArray⟩)) (first | assumption | (refine HS6.out _ ?_; repeat' (first | with_reducible exact Below.refl _ _ | with_reducible refine Below.setCell ?_ ?_ _ | with_reducible refine Below.alloc ?_ ?_ _ | with_reducible refine below_drewN ?_ _ | with_reducible refine Below.drew ?_ | with_reducible refine Below.trans ?_ (Below.mono (by assumption) ?_) | with_reducible exact Nat.le_refl _ | with_reducible refine Nat.le_trans ?_ (Below.size (by assumption)) | with_reducible refine Nat.le_trans ?_ (size_alloc _ _) | with_reducible refine Nat.le_trans ?_ (size_set _ _ _) | with_reducible refine Nat.le_trans ?_ (size_drewN _ _) | with_reducible refine Nat.le_trans ?_ (size_drew _) | (simp; done) | (simp; omega) | omega))) (first | (go_at_call 61; refine (HNm.out _).mono ?_; rintro e w2 ⟨rfl, hw2⟩; subst w2) | (go_at_call 62; refine (HFd.out _).mono ?_; rintro e w3 ⟨rfl, hb3⟩; have HB3 := hide hb3))
            all_goals go_wp2
            go_ret
            exact ⟨by rw [HS.out]; rfl, HB.out.drew.trans (HB3.out.mono HB.out.drew.size)⟩
        have k6' := ek
        clear ek
        have hs : rightN h k = false := by
          rw [HRN.out]; unfold swB
          rw [if_neg k1', if_neg k2', if_neg k3', if_neg k4', if_neg k5', if_neg k6']
        have e1 : (h.kind == 1) = false := by simpa using k1'
        have e2 : (h.kind == 2) = false := by simpa using k2'
        have e3 : (h.kind == 3) = false := by simpa using k3'
        have e4 : (h.kind == 4) = false := by simpa using k4'
        have e5 : (h.kind == 5) = false := by simpa using k5'
        have e6 : (h.kind == 6) = false := by simpa using k6'
        have HS := hide hs
        clear HRN hs k1' k2' k3' k4' k5' k6'
        go_wp2_with (first | (go_at_call 58; refine (HV.out _).mono ?_; rintro e w2 ⟨rfl, hb2⟩; have hbx := HB.out.trans (hb2.mono HB.out.size); obtain ⟨c0, c1, c2, c3, c4, c5, c6, c7, c8, c9, c10, c11, c12, c13, c14⟩ := node_cells (HXr.out.below hb2); clear hb2) | (go_at_call_of 59 [Value.agg #[Value.int IntKind.i64 h.row, Value.int IntKind.i64 h.col]]; refine (HP1.out _).mono ?_; rintro e w2 ⟨rfl, hw2⟩; have hb2 : Below wr.heap.size wr w2 := by { rw [hw2]; exact (Below.refl _ _).alloc (Nat.le_refl _) _ }; clear hw2; have hbx := HB.out.trans (hb2.mono HB.out.size); obtain ⟨c0, c1, c2, c3, c4, c5, c6, c7, c8, c9, c10, c11, c12, c13, c14⟩ := node_cells (HXr.out.below hb2); clear hb2) | (go_at_call_of 59 [Value.agg #[Value.int IntKind.i64 h.row2, Value.int IntKind.i64 h.col2]]; refine (HP2.out _).mono ?_; rintro e w3 ⟨rfl, hw3⟩; have hby := hbx.trans ((show Below w2.heap.size w2 w3 by { rw [hw3]; exact (Below.refl _ _).alloc (Nat.le_refl _) _ }).mono hbx.size); clear hw3) | (go_at_call 60; refine (HLn.out _).mono ?_; rintro e w2 ⟨rfl, hw2⟩; subst w2) | (go_at_call 61; refine (HNm.out _).mono ?_; rintro e w2 ⟨rfl, hw2⟩; subst w2) | (go_at_call 62; refine (HFd.out _).mono ?_; rintro e w3 ⟨rfl, hb3⟩; have hbx := HB.out.trans (hb3.mono HB.out.size); obtain ⟨c0, c1, c2, c3, c4, c5, c6, c7, c8, c9, c10, c11, c12, c13, c14⟩ := node_cells (HXr.out.below hb3); clear hb3))
        go_ret
        exact ⟨by rw [HS.out]; rfl, HB.out⟩
      | .cons h1 k1 r1, hl, hF, hAF, hOF, HQ =>
        have hli : (i : Int) < (k.len : Int) := by simp [Fo.len] at hl; omega
        have hl2 : i + 1 + r1.len = k.len := by simp [Fo.len] at hl; omega
        obtain ⟨b1, o1, rfl, hcap1, hcap2, hrw⟩ : ∃ b' o', a = some ⟨b', o', none⟩ ∧ k.len ≤ cap ∧ cap ≤ maxLen ∧ Row w D (.cons h1 k1 r1) b' (o' + i * 16) := by
          rcases hF with e | e
          · cases e
          · exact e
        obtain ⟨d1, ⟨v1, x1, y1⟩, z1⟩ := row_cons.1 hrw
        have HR1 : Hid (Row w D r1 b1 (o1 + (i + 1) * 16)) := by rw [show o1 + (i + 1) * 16 = o1 + i * 16 + 16 by omega]; exact z1
        have HX : Hid (∀ j, j < 16 → wr.cell? ⟨b1, o1 + i * 16 + j, none⟩ = (hdC h1 v1)[j]?) := fun j hj => by rw [HB.out.cell (p := ⟨b1, o1 + i * 16 + j, none⟩) (hD b1 d1)]; exact x1 j hj
        obtain ⟨hA1, hA2⟩ := hAF
        obtain ⟨hO1, hO2, hO3⟩ := hOF
        have HA2 := hide hA2
        have HO3 := hide hO3
        have HC : Hid (∀ W : World, Below w.heap.size w W → Calls Tryd.prog 43 #[.agg (hdC h1 v1).toArray] W fun e w' => e = .returned (.bool (rightN h1 k1)) ∧ Below W.heap.size W w') := fun W hW =>
          hA1 D h1 v1 W (fun c hc => Nat.lt_of_lt_of_le (hD c hc) hW.size) (kv_to y1 (fun c hc => ⟨hc, hW.block c (hD c hc)⟩)) hO1.1 hO1.2 hO2
        have HN : Hid (allB k = (rightN h1 k1 && allB r1)) := HQ.out
        have HM := hide hcap2
        unfold maxLen at hcap2
        clear HQ hrw d1 x1 y1 z1 hA1 hA2 hO1 hO2 hO3 hF hl
        cases hrn : rightN h1 k1 with
        | false =>
          rw [hrn] at HC HN
          have HS : Hid (rightN h k = false) := by show _ = _; rw [HRA.out, HN.out]; simp
          clear hrn HN
          go_wp2_with (first | (with_reducible refine wpl_id ?_; refine wpl_loadAt rfl _ rfl _ _ rfl HX.out ?_) | (go_at_call 43; refine (HC.out _ HB.out).mono ?_; rintro e w1 ⟨rfl, hb1⟩; have HB1 := hide (HB.out.trans (hb1.mono hsz)); clear hb1))
          go_ret
          exact ⟨by rw [HS.out]; rfl, HB1.out⟩
        | true =>
          rw [hrn] at HC HN
          have HN2 : Hid (allB k = allB r1) := by show _ = _; rw [HN.out]; simp
          clear hrn HN
          go_wp2_with (first | (with_reducible refine wpl_id ?_; refine wpl_loadAt rfl _ rfl _ _ rfl HX.out ?_) | (go_at_call 43; refine (HC.out _ HB.out).mono ?_; rintro e w1 ⟨rfl, hb1⟩; have HB1 := hide (HB.out.trans (hb1.mono hsz)); have HX1 := hide (HXr.out.below hb1); clear hb1))
          go_roundw
          case rel => exact ⟨i + 1, r1, by go_num, by omega, .inr ⟨b1, o1, rfl, hcap1, HM.out, HR1.out⟩, HA2.out, HO3.out, HB1.out, HX1.out, HN2.out⟩
          case measure => simp [intOf]; omega
theorem rright_all : ∀ (F : Fo), RRightA F
  | .nil => trivial
  | .cons _ k r => ⟨rright_step k (rright_all k), rright_all r⟩
theorem cnt_fits (k : Fo) (hm : k.many + 1 ≤ 4096) (hd : k.deep + 1 ≤ 160) : cntN k 4096 160 = (k.many + 1, k.deep + 1) := by
  rw [cntN_yes (by omega), cntF_fits k 4096 160 1 0 (by omega) (by omega)]
  refine Prod.ext ?_ ?_ <;> simp only <;> omega
set_option maxRecDepth 100000 in
set_option maxHeartbeats 2000000 in
theorem rcheck08_any (D : Nat → Prop) (h : Hd) (k : Fo) (a : Option Addr) (n cap : Nat) (w : World) (hD : ∀ c, D c → c < w.heap.size) (hk : Kv w D (.slice a n cap) k) (hm : k.many + 1 ≤ 4096) (hd : k.deep + 1 ≤ 160) (hv : h.vs.length ≤ maxLen) (ht : h.txt.length ≤ maxLen) (ho : okF k) :
    Calls Tryd.prog 29 #[.agg (hdC h (.slice a n cap)).toArray] w fun e w' => e = .returned (.int .i64 (checkN h k)) ∧ Below w.heap.size w w' := by
  have HC : Hid (∀ W : World, Below w.heap.size w W → Calls Tryd.prog 37 #[.agg (hdC h (.slice a n cap)).toArray, .int .i64 4096, .int .i64 160] W fun e w' => e = .returned (.tuple #[.int .i64 ((k.many + 1 : Nat) : Int), .int .i64 ((k.deep + 1 : Nat) : Int)]) ∧ Below W.heap.size W w') := fun W hW => by
    have := count_step k (count_all k) D h (.slice a n cap) W 4096 160 (by omega) (by omega) (fun c hc => Nat.lt_of_lt_of_le (hD c hc) hW.size) (kv_to hk (fun b hb => ⟨hb, hW.block b (hD b hb)⟩))
    rw [cnt_fits k hm hd] at this
    exact this
  have HR : Hid (∀ W : World, Below w.heap.size w W → Calls Tryd.prog 43 #[.agg (hdC h (.slice a n cap)).toArray] W fun e w' => e = .returned (.bool (rightN h k)) ∧ Below W.heap.size W w') := fun W hW =>
    rright_step k (rright_all k) D h (.slice a n cap) W (fun c hc => Nat.lt_of_lt_of_le (hD c hc) hW.size) (kv_to hk (fun b hb => ⟨hb, hW.block b (hD b hb)⟩)) hv ht ho
  have HB := hide ((Below.refl w.heap.size w).alloc (Nat.le_refl _) (.cells (hdC h (.slice a n cap)).toArray 44))
  have HX := hide (Box.new w (hdC h (.slice a n cap)))
  have q1 : ¬ (160 : Int) < ((k.deep + 1 : Nat) : Int) := by omega
  have q2 : ¬ (4096 : Int) < ((k.many + 1 : Nat) : Int) := by omega
  unfold checkN
  rw [if_neg (by omega)]
  clear hk hv ht ho hm hd
  generalize k.deep + 1 = dd at *
  generalize k.many + 1 = mm at *
  cases hr : rightN h k with
  | false =>
    rw [hr] at HR
    rw [if_pos rfl]
    clear hr
    go_enter Tryd.func29, Tryd.ntmps29
    go_wp2_with (first | (with_reducible refine wpl_id ?_; refine wpl_load rfl _ rfl _ rfl (by ((repeat' (first | with_reducible exact Hid.out (by assumption) | with_reducible apply Box.set | with_reducible exact Box.new _ _ | with_reducible apply Box.other | with_reducible apply Box.alloc | with_reducible apply Box.drew | with_reducible apply Box.drewN | omega)); done)) ?_) | (go_at_call 37; refine (HC.out _ HB.out).mono ?_; rintro e w1 ⟨rfl, hb1⟩; have HB1 := hide (HB.out.trans (hb1.mono HB.out.size)); have HX1 := hide (HX.out.below hb1); clear hb1) | (go_at_call 43; refine (HR.out _ HB1.out).mono ?_; rintro e w2 ⟨rfl, hb2⟩; have HB2 := hide (HB1.out.trans (hb2.mono HB1.out.size)); clear hb2))
    go_ret
    exact ⟨rfl, HB2.out⟩
  | true =>
    rw [hr] at HR
    rw [if_neg (by simp)]
    clear hr
    by_cases h3 : 40 < dd
    · have h3' : (40 : Int) < (dd : Int) := by omega
      rw [if_pos h3]
      go_enter Tryd.func29, Tryd.ntmps29
      go_wp2_with (first | (with_reducible refine wpl_id ?_; refine wpl_load rfl _ rfl _ rfl (by ((repeat' (first | with_reducible exact Hid.out (by assumption) | with_reducible apply Box.set | with_reducible exact Box.new _ _ | with_reducible apply Box.other | with_reducible apply Box.alloc | with_reducible apply Box.drew | with_reducible apply Box.drewN | omega)); done)) ?_) | (go_at_call 37; refine (HC.out _ HB.out).mono ?_; rintro e w1 ⟨rfl, hb1⟩; have HB1 := hide (HB.out.trans (hb1.mono HB.out.size)); have HX1 := hide (HX.out.below hb1); clear hb1) | (go_at_call 43; refine (HR.out _ HB1.out).mono ?_; rintro e w2 ⟨rfl, hb2⟩; have HB2 := hide (HB1.out.trans (hb2.mono HB1.out.size)); clear hb2))
      go_ret
      exact ⟨rfl, HB2.out⟩
    · have h3' : ¬ (40 : Int) < (dd : Int) := by omega
      rw [if_neg h3]
      go_enter Tryd.func29, Tryd.ntmps29
      go_wp2_with (first | (with_reducible refine wpl_id ?_; refine wpl_load rfl _ rfl _ rfl (by ((repeat' (first | with_reducible exact Hid.out (by assumption) | with_reducible apply Box.set | with_reducible exact Box.new _ _ | with_reducible apply Box.other | with_reducible apply Box.alloc | with_reducible apply Box.drew | with_reducible apply Box.drewN | omega)); done)) ?_) | (go_at_call 37; refine (HC.out _ HB.out).mono ?_; rintro e w1 ⟨rfl, hb1⟩; have HB1 := hide (HB.out.trans (hb1.mono HB.out.size)); have HX1 := hide (HX.out.below hb1); clear hb1) | (go_at_call 43; refine (HR.out _ HB1.out).mono ?_; rintro e w2 ⟨rfl, hb2⟩; have HB2 := hide (HB1.out.trans (hb2.mono HB1.out.size)); clear hb2))
      go_ret
      exact ⟨rfl, HB2.out⟩
end Go.Proofs.YtijjnchedgllgaaDoor
