/-
  What an edit, and what another place, does with cells and ranges: the two pairs of closures that remade is called with.
-/
import Derived.Test.YtfpmmckpobpokaaGreatMRw3k
namespace Go.Proofs.YtfpmmckpobpokaaGreat
open Go.RowKit
def moveD (k a n : Int) : Do := ⟨fun h => ((Pla.spotR k a n h.row h.col).1, (Pla.spotR k a n h.row h.col).2.1, (Pla.spotR k a n h.row h.col).2.2.1 == 0), fun h => spanR k a n h.row h.col h.row2 h.col2⟩
def shiftD (dr dc : Int) : Do := ⟨fun h => (slideI h.fr h.row dr, slideI h.fc h.col dc, Pla.placeB (slideI h.fr h.row dr) (slideI h.fc h.col dc)), fun h => (slideI h.fr h.row dr, slideI h.fc h.col dc, slideI h.fr2 h.row2 dr, slideI h.fc2 h.col2 dc, Pla.placeB (slideI h.fr h.row dr) (slideI h.fc h.col dc) && Pla.placeB (slideI h.fr2 h.row2 dr) (slideI h.fc2 h.col2 dc))⟩
theorem moveOk (k0 a0 n0 : Int) (be : Nat) : DoOk (moveD k0 a0 n0) 62 63 #[.pointer (some ⟨be, 0, none⟩)] #[.pointer (some ⟨be, 0, none⟩)] (fun W => Pla.At3 W be k0 a0 n0) where
 cell := fun h W hW => by
  rw [show (#[.agg #[.int .i64 h.row, .int .i64 h.col, .bool h.fr, .bool h.fc]] ++ #[.pointer (some ⟨be, 0, none⟩)] : Array Value) = #[.agg #[.int .i64 h.row, .int .i64 h.col, .bool h.fr, .bool h.fc], .pointer (some ⟨be, 0, none⟩)] from rfl]
  exact mcell_any k0 a0 n0 h.row h.col h.fr h.fc be W hW
 span := fun h W hW => by
  rw [show (#[.agg #[.int .i64 h.row, .int .i64 h.col, .bool h.fr, .bool h.fc], .agg #[.int .i64 h.row2, .int .i64 h.col2, .bool h.fr2, .bool h.fc2]] ++ #[.pointer (some ⟨be, 0, none⟩)] : Array Value) = #[.agg #[.int .i64 h.row, .int .i64 h.col, .bool h.fr, .bool h.fc], .agg #[.int .i64 h.row2, .int .i64 h.col2, .bool h.fr2, .bool h.fc2], .pointer (some ⟨be, 0, none⟩)] from rfl]
  exact mspan_any k0 a0 n0 h.row h.col h.row2 h.col2 h.fr h.fc h.fr2 h.fc2 be W hW
 below := fun h k => h.below k
 r1 := fun _ _ => by kernel_rfl
 r2 := fun _ _ => by kernel_rfl
theorem shiftOk (dr dc : Int) (br bc bf : Nat) : DoOk (shiftD dr dc) 70 71 #[.pointer (some ⟨br, 0, none⟩), .pointer (some ⟨bc, 0, none⟩)] #[.pointer (some ⟨bf, 0, none⟩)] (fun W => Sh W br bc bf dr dc) where
 cell := fun h W hW => by
  rw [show (#[.agg #[.int .i64 h.row, .int .i64 h.col, .bool h.fr, .bool h.fc]] ++ #[.pointer (some ⟨br, 0, none⟩), .pointer (some ⟨bc, 0, none⟩)] : Array Value) = #[.agg #[.int .i64 h.row, .int .i64 h.col, .bool h.fr, .bool h.fc], .pointer (some ⟨br, 0, none⟩), .pointer (some ⟨bc, 0, none⟩)] from rfl]
  exact scell_any h.row h.col dr dc h.fr h.fc br bc W hW.1 hW.2.1 hW.2.2.1 hW.2.2.2.1
 span := fun h W hW => by
  rw [show (#[.agg #[.int .i64 h.row, .int .i64 h.col, .bool h.fr, .bool h.fc], .agg #[.int .i64 h.row2, .int .i64 h.col2, .bool h.fr2, .bool h.fc2]] ++ #[.pointer (some ⟨bf, 0, none⟩)] : Array Value) = #[.agg #[.int .i64 h.row, .int .i64 h.col, .bool h.fr, .bool h.fc], .agg #[.int .i64 h.row2, .int .i64 h.col2, .bool h.fr2, .bool h.fc2], .pointer (some ⟨bf, 0, none⟩)] from rfl]
  exact sspan_any h.row h.col h.row2 h.col2 dr dc h.fr h.fc h.fr2 h.fc2 br bc bf W hW
 below := fun h k => h.below k
 r1 := fun _ _ => by kernel_rfl
 r2 := fun _ _ => by kernel_rfl
theorem rem_anyM (k0 a0 n0 : Int) (be : Nat) (k : Fo) : RemCG (moveD k0 a0 n0) 62 63 #[.pointer (some ⟨be, 0, none⟩)] #[.pointer (some ⟨be, 0, none⟩)] (fun W => Pla.At3 W be k0 a0 n0) k := rem_anyG _ _ _ _ _ _ (moveOk k0 a0 n0 be) k
theorem rem_anyS (dr dc : Int) (br bc bf : Nat) (k : Fo) : RemCG (shiftD dr dc) 70 71 #[.pointer (some ⟨br, 0, none⟩), .pointer (some ⟨bc, 0, none⟩)] #[.pointer (some ⟨bf, 0, none⟩)] (fun W => Sh W br bc bf dr dc) k := rem_anyG _ _ _ _ _ _ (shiftOk dr dc br bc bf) k
end Go.Proofs.YtfpmmckpobpokaaGreat
