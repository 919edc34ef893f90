/-
  The contracts of codes' isRow and placeOf.
-/
import Derived.Test.YtnhaapcpklfkpaaGreatDoorCd2
import Derived.Test.YtnhaapcpklfkpaaGreatDoorShelf2
import Derived.Lib.SlicesS
import Derived.Lib.SplitLaws
import Derived.RangeFuncRecord
namespace Go.Proofs.YtnhaapcpklfkpaaGreatDoor
open Go.RowKit

theorem cut_both (s sep : List UInt8) : (Lib.cut s sep).1.length ≤ s.length ∧ (Lib.cut s sep).2.1.length ≤ s.length := by
  unfold Lib.cut
  split
  · simp; omega
  · simp
theorem ret_bool {a b : Bool} (h : a = b) : Ending.returned (.bool a) = .returned (.bool b) := by rw [h]
theorem trimOne_any (s : List UInt8) (c : UInt8) (w : World) (h : c.toNat < 128) : Calls Tryz.prog 125 #[.string ⟨s.toArray⟩, .string ⟨#[c]⟩] w fun e w' => e = .returned (.string ⟨(Lib.trimLeftB s c).toArray⟩) ∧ w' = w := Tryz.strings_TrimLeft_one ⟨s.toArray⟩ c h w
set_option maxHeartbeats 1000000 in
theorem isRow_any (l : List UInt8) (a b : UInt8) (w : World) (ha : a.toNat < 128) (hb : b.toNat < 128) :
    Calls Tryz.prog 108 #[.string ⟨l.toArray⟩, .string ⟨#[a]⟩, .string ⟨#[b]⟩] w fun e w' => e = .returned (.bool (isRowB l a b)) ∧ w' = w := by
  have HA := hide (fun W => trimOne_any l a W ha)
  have HB := hide (fun W => trimOne_any (Lib.trimLeftB l a) b W hb)
  unfold isRowB
  generalize Lib.trimLeftB (Lib.trimLeftB l a) b = T at *
  generalize Lib.trimLeftB l a = U at *
  clear ha hb
  have HG1 : Hid (0 = 0) := hide rfl
  go_enter Tryz.func108, Tryz.ntmps108
  go_wp2_with (first | (have hneed := HG1; go_at_call 125; refine (HA.out _).mono ?_; rintro e wz ⟨rfl, hz⟩; subst wz; clear hneed HG1) | (go_at_call 125; refine (HB.out _).mono ?_; rintro e wz ⟨rfl, hz⟩; subst wz))
  go_ret
  exact ⟨ret_bool (by cases T <;> rfl), rfl⟩
/-- The parts of a text between its commas, in a row. -/
def GroupsAt (w : World) (v : Value) (gs : List (List UInt8)) : Prop := ∃ g, v = .slice (some ⟨g, 0, none⟩) gs.length gs.length ∧ g < w.heap.size ∧ ∀ j x, gs[j]? = some x → w.cell? ⟨g, j, none⟩ = some (.string ⟨x.toArray⟩)
theorem GroupsAt.below {w w' : World} {v : Value} {gs : List (List UInt8)} (h : GroupsAt w v gs) (k : Below w.heap.size w w') : GroupsAt w' v gs := by
  obtain ⟨g, e, hg, hc⟩ := h
  exact ⟨g, e, Nat.lt_of_lt_of_le hg k.size, fun j x hx => (k.cell (p := ⟨g, j, none⟩) hg).trans (hc j x hx)⟩
theorem split_at_any (s : List UInt8) (w : World) (hs : s.length ≤ 100000) (hc : CellOk w) :
    Calls Tryz.prog 106 #[.string ⟨s.toArray⟩, .string ⟨#[44]⟩] w fun e w' => ∃ v, e = .returned v ∧ GroupsAt w' v (Lib.split s [44]) ∧ Below w.heap.size w w' := by
  obtain ⟨m, hm⟩ := hc
  refine (Tryz.strings_Split ⟨s.toArray⟩ ⟨#[44]⟩ m w (by rw [mk_size]; omega) hm (by decide)).mono ?_
  rintro e w' ⟨rfl, rfl⟩
  have hd := Lib.splitB_data ⟨#[44]⟩ 0 (Lib.countB ⟨s.toArray⟩ ⟨#[44]⟩) ⟨s.toArray⟩
  have hsp : Lib.split s [44] = (Lib.splitB ⟨#[44]⟩ 0 (Lib.countB ⟨s.toArray⟩ ⟨#[44]⟩) ⟨s.toArray⟩).map (·.data.toList) := hd.symm
  have hl := Lib.splitB_all ⟨#[44]⟩ (by decide) 0 _ ⟨s.toArray⟩ rfl
  refine ⟨_, rfl, ⟨w.heap.size, ?_, by simp, fun j x hx => ?_⟩, (Below.refl _ _).alloc (Nat.le_refl _) _⟩
  · rw [hsp, List.length_map, hl]
  · rw [hsp, List.getElem?_map] at hx
    have hz := World.alloc_heap_new w (.cells ((Lib.splitB ⟨#[44]⟩ 0 (Lib.countB ⟨s.toArray⟩ ⟨#[44]⟩) ⟨s.toArray⟩).map Value.string).toArray 9)
    simp only [World.cell?, hz]
    cases hb : (Lib.splitB ⟨#[44]⟩ 0 (Lib.countB ⟨s.toArray⟩ ⟨#[44]⟩) ⟨s.toArray⟩)[j]? with
    | none => rw [hb] at hx; cases hx
    | some y =>
      rw [hb] at hx
      obtain rfl : y.data.toList = x := by simpa using hx
      simp [hb]
theorem contains_at {w : World} {v : Value} {gs : List (List UInt8)} (h : GroupsAt w v gs) (hn : gs.length ≤ 100000) :
    Calls Tryz.prog 107 #[v, .string ⟨#[]⟩] w fun e w' => e = .returned (.bool (gs.contains [])) ∧ w' = w := by
  obtain ⟨g, rfl, hg, hc⟩ := h
  refine (Tryz.slices_Contains_string g 0 gs.length gs.length (gs.map fun x => ⟨x.toArray⟩) ⟨#[]⟩ w (by simp) (by omega) (fun j hj => ?_)).mono ?_
  · have hj' : j < gs.length := by simpa using hj
    rw [Nat.zero_add, hc j gs[j] (List.getElem?_eq_getElem hj')]
    simp [List.getD_eq_getElem?_getD, hj']
  · rintro e w' ⟨rfl, hw⟩
    refine ⟨?_, hw⟩
    congr 2
    rw [Bool.eq_iff_iff, Lib.containsS_iff, List.take_of_length_le (by simp), List.contains_iff_mem, List.mem_map]
    constructor
    · rintro ⟨x, hx, e⟩
      have := congrArg (fun b : ByteArray => b.data.toList) e
      have e2 : x = [] := by simpa using this
      rw [← e2]; exact hx
    · exact fun hx => ⟨[], hx, rfl⟩
theorem join_at {w : World} {v : Value} {gs : List (List UInt8)} (h : GroupsAt w v gs) (hn : gs.length ≤ 100000) (hl : (Lib.join gs []).length ≤ 100000) :
    Calls Tryz.prog 109 #[v, .string ⟨#[]⟩] w fun e w' => e = .returned (.string ⟨(Lib.join gs []).toArray⟩) ∧ Below w.heap.size w w' := by
  obtain ⟨g, rfl, hg, hc⟩ := h
  have hm : (gs.map fun x => (⟨x.toArray⟩ : ByteArray)).map (fun x => x.data.toList) = gs := by rw [List.map_map]; exact List.map_id' gs
  have := Tryz.strings_Join g 0 gs.length (gs.map fun x => ⟨x.toArray⟩) ⟨#[]⟩ w (fun j x hx => ?_) hg (by simp; omega) (by simp) (by rw [hm]; exact Nat.le_trans hl (by decide))
  · rw [hm, List.length_map] at this
    exact this
  · rw [List.getElem?_map] at hx
    cases hb : gs[j]? with
    | none => rw [hb] at hx; cases hx
    | some y =>
      rw [hb] at hx
      obtain rfl : (⟨y.toArray⟩ : ByteArray) = x := by simpa using hx
      rw [Nat.zero_add]; exact hc j y hb
theorem split_flat (sep : List UInt8) : ∀ (k : Nat) (s : List UInt8), (Lib.splitK sep 0 k s).flatten.length ≤ s.length
  | 0, s => by simp [Lib.splitK]
  | k + 1, s => by
    unfold Lib.splitK
    split
    · simp
    · have := split_flat sep k (s.drop ((Lib.index s sep).toNat + sep.length))
      simp only [List.flatten_cons, List.length_append, List.length_take, List.length_drop] at *
      omega
theorem join_nil (gs : List (List UInt8)) : Lib.join gs [] = gs.flatten := by
  unfold Lib.join
  induction gs with
  | nil => rfl
  | cons x xs ih =>
    cases xs with
    | nil => simp [List.intercalate]
    | cons y ys => rw [List.flatten_cons, ← ih]; simp [List.intercalate]
theorem split_len (s : List UInt8) : (Lib.split s [44]).length ≤ s.length + 1 := by
  have hd := Lib.splitB_data ⟨#[44]⟩ 0 (Lib.countB ⟨s.toArray⟩ ⟨#[44]⟩) ⟨s.toArray⟩
  have hsp : Lib.split s [44] = (Lib.splitB ⟨#[44]⟩ 0 (Lib.countB ⟨s.toArray⟩ ⟨#[44]⟩) ⟨s.toArray⟩).map (·.data.toList) := hd.symm
  have hl := Lib.splitB_all ⟨#[44]⟩ (by decide) 0 _ ⟨s.toArray⟩ rfl
  have hc := Lib.countB_le ⟨#[44]⟩ (by decide) _ ⟨s.toArray⟩ (Nat.le_refl _)
  rw [mk_size] at hc
  rw [hsp, List.length_map, hl]
  omega
theorem count_at (s : List UInt8) (c : UInt8) (w : World) : Calls Tryz.prog 110 #[.string ⟨s.toArray⟩, .string ⟨#[c]⟩] w fun e w' => e = .returned (.int .i64 (Lib.countByte s c)) ∧ w' = w := Tryz.strings_Count_one ⟨s.toArray⟩ c w
/-- A value, or the text is no format. -/
def toldPl (b : Bool) (v : Value) (e : Ending) : Prop :=
  match b with
  | true => e = .returned v
  | false => e = .panicked RF
set_option maxHeartbeats 4000000 in
theorem placeOf_any (t : List UInt8) (w : World) (ht : t.length ≤ 1000) (hc : CellOk w) :
    Calls Tryz.prog 76 #[.string ⟨t.toArray⟩] w fun e w' => toldPl (placeB t) (plcV (placeR t)) e ∧ Below w.heap.size w w' := by
  obtain ⟨lw, lf⟩ := cut_both t [46]
  have HC : Hid (∀ W : World, Below w.heap.size w W → Calls Tryz.prog 105 #[.string ⟨t.toArray⟩, .string ⟨#[46]⟩] W fun e w' => e = .returned (.tuple #[.string ⟨(wholeOf t).toArray⟩, .string ⟨(fracOf t).toArray⟩, .bool (Lib.cut t [46]).2.2]) ∧ Below W.heap.size W w') := fun W hW => cut_at t 46 W (by omega) (cellOk_below hc hW)
  have HS : Hid (∀ W : World, Below w.heap.size w W → Calls Tryz.prog 106 #[.string ⟨(wholeOf t).toArray⟩, .string ⟨#[44]⟩] W fun e w' => ∃ v, e = .returned v ∧ GroupsAt w' v (groupsOf t) ∧ Below W.heap.size W w') := fun W hW => split_at_any (wholeOf t) W (by unfold wholeOf; omega) (cellOk_below hc hW)
  have hgl : (groupsOf t).length ≤ 1001 := by
    have := split_len (wholeOf t)
    unfold groupsOf
    unfold wholeOf at this ⊢
    omega
  have hgj : (Lib.join (groupsOf t) []).length ≤ 1001 := by
    rw [join_nil]
    have := split_flat [44] (Lib.count (wholeOf t) [44]) (wholeOf t)
    unfold groupsOf Lib.split
    unfold wholeOf at this ⊢
    omega
  have HK : Hid (∀ (W : World) (v : Value), GroupsAt W v (groupsOf t) → Calls Tryz.prog 107 #[v, .string ⟨#[]⟩] W fun e w' => e = .returned (.bool ((groupsOf t).contains [])) ∧ w' = W) := fun W v h => contains_at h (by omega)
  have HJ : Hid (∀ (W : World) (v : Value), GroupsAt W v (groupsOf t) → Calls Tryz.prog 109 #[v, .string ⟨#[]⟩] W fun e w' => e = .returned (.string ⟨(Lib.join (groupsOf t) []).toArray⟩) ∧ Below W.heap.size W w') := fun W v h => join_at h (by omega) (by omega)
  have HR1 : Hid (∀ W : World, Calls Tryz.prog 108 #[.string ⟨(Lib.join (groupsOf t) []).toArray⟩, .string ⟨#[35]⟩, .string ⟨#[48]⟩] W fun e w' => e = .returned (.bool (isRowB (Lib.join (groupsOf t) []) 35 48)) ∧ w' = W) := fun W => isRow_any _ 35 48 W (by decide) (by decide)
  have HR2 : Hid (∀ W : World, Calls Tryz.prog 108 #[.string ⟨(fracOf t).toArray⟩, .string ⟨#[48]⟩, .string ⟨#[35]⟩] W fun e w' => e = .returned (.bool (isRowB (fracOf t) 48 35)) ∧ w' = W) := fun W => isRow_any _ 48 35 W (by decide) (by decide)
  have HN1 := hide (fun W => count_at (wholeOf t) 48 W)
  have HN2 := hide (fun W => count_at (fracOf t) 48 W)
  have HN3 := hide (fun W => count_at (fracOf t) 35 W)
  have hB : placeB t = (!(groupsOf t).contains [] && isRowB (Lib.join (groupsOf t) []) 35 48 && isRowB (fracOf t) 48 35) := rfl
  have hP : placeR t = { comma := decide (1 < (groupsOf t).length), point := (Lib.cut t [46]).2.2, noughts := Lib.countByte (wholeOf t) 48, fixed := Lib.countByte (fracOf t) 48, free := Lib.countByte (fracOf t) 35 } := rfl
  rw [hB, hP]
  have hcm : decide ((1 : Int) < ((groupsOf t).length : Int)) = decide (1 < (groupsOf t).length) := by rw [decide_eq_decide]; omega
  have hgl2 : ((groupsOf t).length : Int) ≤ 1001 := by omega
  simp only [plcV]
  rw [← hcm]
  clear hcm hB hP hc lw lf ht hgj hgl
  have szW := mk_size (wholeOf t)
  generalize Lib.countByte (wholeOf t) 48 = n1 at *
  generalize Lib.countByte (fracOf t) 48 = n2 at *
  generalize Lib.countByte (fracOf t) 35 = n3 at *
  generalize isRowB (fracOf t) 48 35 = b3 at *
  generalize isRowB (Lib.join (groupsOf t) []) 35 48 = b2 at *
  generalize (groupsOf t).contains [] = b1 at *
  generalize Lib.join (groupsOf t) [] = J at *
  generalize groupsOf t = gs at *
  generalize (Lib.cut t [46]).2.2 = pt at *
  generalize wholeOf t = A at *
  generalize fracOf t = F at *
  generalize (⟨t.toArray⟩ : ByteArray) = S at *
  cases b1
  · cases b2
    · go_enter Tryz.func76, Tryz.ntmps76
      go_wp2_with (first | (go_at_call 105; refine (HC.out _ (by repeat' (first | with_reducible exact Below.refl _ _ | with_reducible refine Below.setCell ?_ ?_ _ | with_reducible refine Below.alloc ?_ ?_ _ | with_reducible refine below_drewN ?_ _ | with_reducible refine Below.drew ?_ | with_reducible refine Below.trans ?_ (Below.mono (by assumption) ?_) | with_reducible exact Nat.le_refl _ | with_reducible refine Nat.le_trans ?_ (Below.size (by assumption)) | with_reducible refine Nat.le_trans ?_ (size_alloc _ _) | with_reducible refine Nat.le_trans ?_ (size_set _ _ _) | with_reducible refine Nat.le_trans ?_ (size_drewN _ _) | with_reducible refine Nat.le_trans ?_ (size_drew _) | (simp; done) | (simp; omega) | omega))).mono ?_; rintro e w1 ⟨rfl, hb1⟩; obtain ⟨hc1, hf1⟩ := cbcell hb1; have hz1 : w.heap.size < w1.heap.size := by (have := hb1.size; simp at this; omega)) | (go_at_call 106; refine (HS.out _ (by repeat' (first | with_reducible exact Below.refl _ _ | with_reducible refine Below.setCell ?_ ?_ _ | with_reducible refine Below.alloc ?_ ?_ _ | with_reducible refine below_drewN ?_ _ | with_reducible refine Below.drew ?_ | with_reducible refine Below.trans ?_ (Below.mono (by assumption) ?_) | with_reducible exact Nat.le_refl _ | with_reducible refine Nat.le_trans ?_ (Below.size (by assumption)) | with_reducible refine Nat.le_trans ?_ (size_alloc _ _) | with_reducible refine Nat.le_trans ?_ (size_set _ _ _) | with_reducible refine Nat.le_trans ?_ (size_drewN _ _) | with_reducible refine Nat.le_trans ?_ (size_drew _) | (simp; done) | (simp; omega) | omega))).mono ?_; rintro e w2 ⟨v, rfl, hg2, hb2⟩; have HG2 := hide hg2; obtain ⟨g, rfl, hg0, hgc⟩ := hg2; clear hgc; obtain ⟨hc2, hf2⟩ := cbcell hb2; have hz2 : w.heap.size < w2.heap.size := by (have := hb2.size; omega)) | (go_at_call 107; refine (HK.out _ _ HG2.out).mono ?_; rintro e wz ⟨rfl, hz⟩; subst wz) | (go_at_call 109; refine (HJ.out _ _ HG2.out).mono ?_; rintro e w3 ⟨rfl, hb3⟩; obtain ⟨hc3, hf3⟩ := cbcell hb3; have hz3 : w.heap.size < w3.heap.size := by (have := hb3.size; omega)) | (go_at_call_of 108 [Value.string ⟨J.toArray⟩, Value.string ⟨#[35]⟩, Value.string ⟨#[48]⟩]; refine (HR1.out _).mono ?_; rintro e wz ⟨rfl, hz⟩; subst wz) | (go_at_call 47; refine (refuse_any _).mono ?_; rintro e wz ⟨rfl, hz⟩; subst wz))
      exact ⟨rfl, rfl, by repeat' (first | with_reducible exact Below.refl _ _ | with_reducible refine Below.setCell ?_ ?_ _ | with_reducible refine Below.alloc ?_ ?_ _ | with_reducible refine below_drewN ?_ _ | with_reducible refine Below.drew ?_ | with_reducible refine Below.trans ?_ (Below.mono (by assumption) ?_) | with_reducible exact Nat.le_refl _ | with_reducible refine Nat.le_trans ?_ (Below.size (by assumption)) | with_reducible refine Nat.le_trans ?_ (size_alloc _ _) | with_reducible refine Nat.le_trans ?_ (size_set _ _ _) | with_reducible refine Nat.le_trans ?_ (size_drewN _ _) | with_reducible refine Nat.le_trans ?_ (size_drew _) | (simp; done) | (simp; omega) | omega)⟩
    · cases b3
      · go_enter Tryz.func76, Tryz.ntmps76
        go_wp2_with (first | (go_at_call 105; refine (HC.out _ (by repeat' (first | with_reducible exact Below.refl _ _ | with_reducible refine Below.setCell ?_ ?_ _ | with_reducible refine Below.alloc ?_ ?_ _ | with_reducible refine below_drewN ?_ _ | with_reducible refine Below.drew ?_ | with_reducible refine Below.trans ?_ (Below.mono (by assumption) ?_) | with_reducible exact Nat.le_refl _ | with_reducible refine Nat.le_trans ?_ (Below.size (by assumption)) | with_reducible refine Nat.le_trans ?_ (size_alloc _ _) | with_reducible refine Nat.le_trans ?_ (size_set _ _ _) | with_reducible refine Nat.le_trans ?_ (size_drewN _ _) | with_reducible refine Nat.le_trans ?_ (size_drew _) | (simp; done) | (simp; omega) | omega))).mono ?_; rintro e w1 ⟨rfl, hb1⟩; obtain ⟨hc1, hf1⟩ := cbcell hb1; have hz1 : w.heap.size < w1.heap.size := by (have := hb1.size; simp at this; omega)) | (go_at_call 106; refine (HS.out _ (by repeat' (first | with_reducible exact Below.refl _ _ | with_reducible refine Below.setCell ?_ ?_ _ | with_reducible refine Below.alloc ?_ ?_ _ | with_reducible refine below_drewN ?_ _ | with_reducible refine Below.drew ?_ | with_reducible refine Below.trans ?_ (Below.mono (by assumption) ?_) | with_reducible exact Nat.le_refl _ | with_reducible refine Nat.le_trans ?_ (Below.size (by assumption)) | with_reducible refine Nat.le_trans ?_ (size_alloc _ _) | with_reducible refine Nat.le_trans ?_ (size_set _ _ _) | with_reducible refine Nat.le_trans ?_ (size_drewN _ _) | with_reducible refine Nat.le_trans ?_ (size_drew _) | (simp; done) | (simp; omega) | omega))).mono ?_; rintro e w2 ⟨v, rfl, hg2, hb2⟩; have HG2 := hide hg2; obtain ⟨g, rfl, hg0, hgc⟩ := hg2; clear hgc; obtain ⟨hc2, hf2⟩ := cbcell hb2; have hz2 : w.heap.size < w2.heap.size := by (have := hb2.size; omega)) | (go_at_call 107; refine (HK.out _ _ HG2.out).mono ?_; rintro e wz ⟨rfl, hz⟩; subst wz) | (go_at_call 109; refine (HJ.out _ _ HG2.out).mono ?_; rintro e w3 ⟨rfl, hb3⟩; obtain ⟨hc3, hf3⟩ := cbcell hb3; have hz3 : w.heap.size < w3.heap.size := by (have := hb3.size; omega)) | (go_at_call_of 108 [Value.string ⟨J.toArray⟩, Value.string ⟨#[35]⟩, Value.string ⟨#[48]⟩]; refine (HR1.out _).mono ?_; rintro e wz ⟨rfl, hz⟩; subst wz) | (go_at_call_of 108 [Value.string ⟨F.toArray⟩, Value.string ⟨#[48]⟩, Value.string ⟨#[35]⟩]; refine (HR2.out _).mono ?_; rintro e wz ⟨rfl, hz⟩; subst wz) | (go_at_call 47; refine (refuse_any _).mono ?_; rintro e wz ⟨rfl, hz⟩; subst wz))
        exact ⟨rfl, rfl, by repeat' (first | with_reducible exact Below.refl _ _ | with_reducible refine Below.setCell ?_ ?_ _ | with_reducible refine Below.alloc ?_ ?_ _ | with_reducible refine below_drewN ?_ _ | with_reducible refine Below.drew ?_ | with_reducible refine Below.trans ?_ (Below.mono (by assumption) ?_) | with_reducible exact Nat.le_refl _ | with_reducible refine Nat.le_trans ?_ (Below.size (by assumption)) | with_reducible refine Nat.le_trans ?_ (size_alloc _ _) | with_reducible refine Nat.le_trans ?_ (size_set _ _ _) | with_reducible refine Nat.le_trans ?_ (size_drewN _ _) | with_reducible refine Nat.le_trans ?_ (size_drew _) | (simp; done) | (simp; omega) | omega)⟩
      · go_enter Tryz.func76, Tryz.ntmps76
        go_wp2_with (first | (go_at_call 105; refine (HC.out _ (by repeat' (first | with_reducible exact Below.refl _ _ | with_reducible refine Below.setCell ?_ ?_ _ | with_reducible refine Below.alloc ?_ ?_ _ | with_reducible refine below_drewN ?_ _ | with_reducible refine Below.drew ?_ | with_reducible refine Below.trans ?_ (Below.mono (by assumption) ?_) | with_reducible exact Nat.le_refl _ | with_reducible refine Nat.le_trans ?_ (Below.size (by assumption)) | with_reducible refine Nat.le_trans ?_ (size_alloc _ _) | with_reducible refine Nat.le_trans ?_ (size_set _ _ _) | with_reducible refine Nat.le_trans ?_ (size_drewN _ _) | with_reducible refine Nat.le_trans ?_ (size_drew _) | (simp; done) | (simp; omega) | omega))).mono ?_; rintro e w1 ⟨rfl, hb1⟩; obtain ⟨hc1, hf1⟩ := cbcell hb1; have hz1 : w.heap.size < w1.heap.size := by (have := hb1.size; simp at this; omega)) | (go_at_call 106; refine (HS.out _ (by repeat' (first | with_reducible exact Below.refl _ _ | with_reducible refine Below.setCell ?_ ?_ _ | with_reducible refine Below.alloc ?_ ?_ _ | with_reducible refine below_drewN ?_ _ | with_reducible refine Below.drew ?_ | with_reducible refine Below.trans ?_ (Below.mono (by assumption) ?_) | with_reducible exact Nat.le_refl _ | with_reducible refine Nat.le_trans ?_ (Below.size (by assumption)) | with_reducible refine Nat.le_trans ?_ (size_alloc _ _) | with_reducible refine Nat.le_trans ?_ (size_set _ _ _) | with_reducible refine Nat.le_trans ?_ (size_drewN _ _) | with_reducible refine Nat.le_trans ?_ (size_drew _) | (simp; done) | (simp; omega) | omega))).mono ?_; rintro e w2 ⟨v, rfl, hg2, hb2⟩; have HG2 := hide hg2; obtain ⟨g, rfl, hg0, hgc⟩ := hg2; clear hgc; obtain ⟨hc2, hf2⟩ := cbcell hb2; have hz2 : w.heap.size < w2.heap.size := by (have := hb2.size; omega)) | (go_at_call 107; refine (HK.out _ _ HG2.out).mono ?_; rintro e wz ⟨rfl, hz⟩; subst wz) | (go_at_call 109; refine (HJ.out _ _ HG2.out).mono ?_; rintro e w3 ⟨rfl, hb3⟩; obtain ⟨hc3, hf3⟩ := cbcell hb3; have hz3 : w.heap.size < w3.heap.size := by (have := hb3.size; omega)) | (go_at_call_of 108 [Value.string ⟨J.toArray⟩, Value.string ⟨#[35]⟩, Value.string ⟨#[48]⟩]; refine (HR1.out _).mono ?_; rintro e wz ⟨rfl, hz⟩; subst wz) | (go_at_call_of 108 [Value.string ⟨F.toArray⟩, Value.string ⟨#[48]⟩, Value.string ⟨#[35]⟩]; refine (HR2.out _).mono ?_; rintro e wz ⟨rfl, hz⟩; subst wz) | (go_at_call_of 110 [Value.string ⟨A.toArray⟩, Value.string ⟨#[48]⟩]; refine (HN1.out _).mono ?_; rintro e wz ⟨rfl, hz⟩; subst wz) | (go_at_call_of 110 [Value.string ⟨F.toArray⟩, Value.string ⟨#[48]⟩]; refine (HN2.out _).mono ?_; rintro e wz ⟨rfl, hz⟩; subst wz) | (go_at_call_of 110 [Value.string ⟨F.toArray⟩, Value.string ⟨#[35]⟩]; refine (HN3.out _).mono ?_; rintro e wz ⟨rfl, hz⟩; subst wz))
        refine bodyPost_ret (v := .agg #[.bool (decide ((1 : Int) < (gs.length : Int))), .bool pt, .int .i64 n1, .int .i64 n2, .int .i64 n3]) (by simp [results, Tryz.results76, go_sem, hc3, hc2, hc1, hz1, hz2]) rfl ⟨rfl, ?_⟩
        repeat' (first | with_reducible exact Below.refl _ _ | with_reducible refine Below.setCell ?_ ?_ _ | with_reducible refine Below.alloc ?_ ?_ _ | with_reducible refine below_drewN ?_ _ | with_reducible refine Below.drew ?_ | with_reducible refine Below.trans ?_ (Below.mono (by assumption) ?_) | with_reducible exact Nat.le_refl _ | with_reducible refine Nat.le_trans ?_ (Below.size (by assumption)) | with_reducible refine Nat.le_trans ?_ (size_alloc _ _) | with_reducible refine Nat.le_trans ?_ (size_set _ _ _) | with_reducible refine Nat.le_trans ?_ (size_drewN _ _) | with_reducible refine Nat.le_trans ?_ (size_drew _) | (simp; done) | (simp; omega) | omega)
  · go_enter Tryz.func76, Tryz.ntmps76
    go_wp2_with (first | (go_at_call 105; refine (HC.out _ (by repeat' (first | with_reducible exact Below.refl _ _ | with_reducible refine Below.setCell ?_ ?_ _ | with_reducible refine Below.alloc ?_ ?_ _ | with_reducible refine below_drewN ?_ _ | with_reducible refine Below.drew ?_ | with_reducible refine Below.trans ?_ (Below.mono (by assumption) ?_) | with_reducible exact Nat.le_refl _ | with_reducible refine Nat.le_trans ?_ (Below.size (by assumption)) | with_reducible refine Nat.le_trans ?_ (size_alloc _ _) | with_reducible refine Nat.le_trans ?_ (size_set _ _ _) | with_reducible refine Nat.le_trans ?_ (size_drewN _ _) | with_reducible refine Nat.le_trans ?_ (size_drew _) | (simp; done) | (simp; omega) | omega))).mono ?_; rintro e w1 ⟨rfl, hb1⟩; obtain ⟨hc1, hf1⟩ := cbcell hb1; have hz1 : w.heap.size < w1.heap.size := by (have := hb1.size; simp at this; omega)) | (go_at_call 106; refine (HS.out _ (by repeat' (first | with_reducible exact Below.refl _ _ | with_reducible refine Below.setCell ?_ ?_ _ | with_reducible refine Below.alloc ?_ ?_ _ | with_reducible refine below_drewN ?_ _ | with_reducible refine Below.drew ?_ | with_reducible refine Below.trans ?_ (Below.mono (by assumption) ?_) | with_reducible exact Nat.le_refl _ | with_reducible refine Nat.le_trans ?_ (Below.size (by assumption)) | with_reducible refine Nat.le_trans ?_ (size_alloc _ _) | with_reducible refine Nat.le_trans ?_ (size_set _ _ _) | with_reducible refine Nat.le_trans ?_ (size_drewN _ _) | with_reducible refine Nat.le_trans ?_ (size_drew _) | (simp; done) | (simp; omega) | omega))).mono ?_; rintro e w2 ⟨v, rfl, hg2, hb2⟩; have HG2 := hide hg2; obtain ⟨g, rfl, hg0, hgc⟩ := hg2; clear hgc; obtain ⟨hc2, hf2⟩ := cbcell hb2; have hz2 : w.heap.size < w2.heap.size := by (have := hb2.size; omega)) | (go_at_call 107; refine (HK.out _ _ HG2.out).mono ?_; rintro e wz ⟨rfl, hz⟩; subst wz) | (go_at_call 47; refine (refuse_any _).mono ?_; rintro e wz ⟨rfl, hz⟩; subst wz))
    exact ⟨rfl, rfl, by repeat' (first | with_reducible exact Below.refl _ _ | with_reducible refine Below.setCell ?_ ?_ _ | with_reducible refine Below.alloc ?_ ?_ _ | with_reducible refine below_drewN ?_ _ | with_reducible refine Below.drew ?_ | with_reducible refine Below.trans ?_ (Below.mono (by assumption) ?_) | with_reducible exact Nat.le_refl _ | with_reducible refine Nat.le_trans ?_ (Below.size (by assumption)) | with_reducible refine Nat.le_trans ?_ (size_alloc _ _) | with_reducible refine Nat.le_trans ?_ (size_set _ _ _) | with_reducible refine Nat.le_trans ?_ (size_drewN _ _) | with_reducible refine Nat.le_trans ?_ (size_drew _) | (simp; done) | (simp; omega) | omega)⟩
end Go.Proofs.YtnhaapcpklfkpaaGreatDoor
