/-
  The chapter's examples: the statements' lives is true. What stands in the world: the two tables.
-/
import Derived.Test.YtlhpplhhdeifhaaDoorDt8
namespace Go.Proofs.YtlhpplhhdeifhaaDoor
open Go.RowKit

/-- Both tables lie as they were laid. -/
def Env (w : World) : Prop := LenOk w ∧ TabOk w
theorem Env.below {w w' : World} (h : Env w) (hb : Below w.heap.size w w') : Env w' := ⟨len_below h.1 hb, tab_below h.2 hb⟩
theorem day_a : DayIs 1999 11 31 36524 := ⟨by decide, by decide, by decide, by decide, by decide, by decide⟩
theorem day_b : DayIs 2024 0 31 45321 := ⟨by decide, by decide, by decide, by decide, by decide, by decide⟩
theorem day_c : DayIs 2024 1 29 45350 := ⟨by decide, by decide, by decide, by decide, by decide, by decide⟩
theorem ser_a : serialR 1900 3 1 = (60, 0) := by decide
theorem ser_b : serialR 1999 13 0 = (36524, 0) := by decide
theorem wk_a : weekR 1 = (2, 0) := by decide
theorem mon_a : monthsR 2024 0 31 1 = (45350, 0) := by decide
theorem par_a : parseS ⟨#[50, 48, 50, 51, 45, 48, 50, 45, 50, 57]⟩ = (0, 3) := by decide
theorem par_b : parseS ⟨#[50, 48, 50, 52, 45, 48, 49, 45, 51, 49]⟩ = (45321, 0) := by decide
theorem tx_a : (⟨(textL 1999 11 31).toArray⟩ : ByteArray) = ⟨#[49, 57, 57, 57, 45, 49, 50, 45, 51, 49]⟩ := by kernel_rfl
theorem tx_b : (⟨(textL 2024 1 29).toArray⟩ : ByteArray) = ⟨#[50, 48, 50, 52, 45, 48, 50, 45, 50, 57]⟩ := by kernel_rfl
set_option maxHeartbeats 4000000 in
theorem lives_any (w : World) (h : Env w) :
    Calls Tryd.prog 13 #[] w fun e w' => e = .returned (.bool true) ∧ Below w.heap.size w w' := by
  have HS1 : Hid (∀ W : World, Below w.heap.size w W → Calls Tryd.prog 9 #[.int .i64 1900, .int .i64 3, .int .i64 1] W fun e w' => e = .returned (.tuple #[.int .i64 60, .int .i64 0]) ∧ Below W.heap.size W w') := fun W hW => by have := serial_any 1900 3 1 W (h.below hW).1; rw [ser_a] at this; exact this
  have HS2 : Hid (∀ W : World, Below w.heap.size w W → Calls Tryd.prog 9 #[.int .i64 1999, .int .i64 13, .int .i64 0] W fun e w' => e = .returned (.tuple #[.int .i64 36524, .int .i64 0]) ∧ Below W.heap.size W w') := fun W hW => by have := serial_any 1999 13 0 W (h.below hW).1; rw [ser_b] at this; exact this
  have HP1 : Hid (∀ W : World, Below w.heap.size w W → Calls Tryd.prog 18 #[.int .i64 36524] W fun e w' => e = .returned (.tuple #[.string ⟨#[49, 57, 57, 57, 45, 49, 50, 45, 51, 49]⟩, .int .i64 0]) ∧ Below W.heap.size W w') := fun W hW => by have := print_yes _ _ _ _ W day_a (h.below hW).1 (h.below hW).2; rw [tx_a] at this; exact this
  have HW : Hid (∀ W : World, Calls Tryd.prog 16 #[.int .i64 1] W fun e w' => e = .returned (.tuple #[.int .i64 2, .int .i64 0]) ∧ Below W.heap.size W w') := fun W => by have := weekday_any 1 W; rw [wk_a] at this; exact this
  have HA1 : Hid (∀ W : World, Below w.heap.size w W → Calls Tryd.prog 22 #[.string ⟨#[50, 48, 50, 51, 45, 48, 50, 45, 50, 57]⟩] W fun e w' => e = .returned (.tuple #[.int .i64 0, .int .i64 3]) ∧ Below W.heap.size W w') := fun W hW => by have := parse_any ⟨#[50, 48, 50, 51, 45, 48, 50, 45, 50, 57]⟩ W (h.below hW).1; rw [par_a] at this; exact this
  have HA2 : Hid (∀ W : World, Below w.heap.size w W → Calls Tryd.prog 22 #[.string ⟨#[50, 48, 50, 52, 45, 48, 49, 45, 51, 49]⟩] W fun e w' => e = .returned (.tuple #[.int .i64 45321, .int .i64 0]) ∧ Below W.heap.size W w') := fun W hW => by have := parse_any ⟨#[50, 48, 50, 52, 45, 48, 49, 45, 51, 49]⟩ W (h.below hW).1; rw [par_b] at this; exact this
  have HM : Hid (∀ W : World, Below w.heap.size w W → Calls Tryd.prog 20 #[.int .i64 45321, .int .i64 1] W fun e w' => e = .returned (.tuple #[.int .i64 45350, .int .i64 0]) ∧ Below W.heap.size W w') := fun W hW => by have := months_yes _ _ _ _ 1 W day_b (by decide) (by decide) (h.below hW).1; rw [mon_a] at this; exact this
  have HP2 : Hid (∀ W : World, Below w.heap.size w W → Calls Tryd.prog 18 #[.int .i64 45350] W fun e w' => e = .returned (.tuple #[.string ⟨#[50, 48, 50, 52, 45, 48, 50, 45, 50, 57]⟩, .int .i64 0]) ∧ Below W.heap.size W w') := fun W hW => by have := print_yes _ _ _ _ W day_c (h.below hW).1 (h.below hW).2; rw [tx_b] at this; exact this
  clear h
  go_enter Tryd.func13, Tryd.ntmps13
  go_wp2_with fail
  refine (HS1.out _ (Below.refl _ _)).mono ?_
  rintro e w1 ⟨rfl, hb⟩
  go_wp2_with fail
  refine (HS2.out _ hb).mono ?_
  rintro e w2 ⟨rfl, hb2⟩
  have hb := up hb hb2
  go_wp2_with fail
  refine (HP1.out _ hb).mono ?_
  rintro e w3 ⟨rfl, hb3⟩
  have hb := up hb hb3
  go_wp2_with fail
  refine (HW.out _).mono ?_
  rintro e w4 ⟨rfl, hb4⟩
  have hb := up hb hb4
  go_wp2_with fail
  refine (HA1.out _ hb).mono ?_
  rintro e w5 ⟨rfl, hb5⟩
  have hb := up hb hb5
  go_wp2_with fail
  refine (HA2.out _ hb).mono ?_
  rintro e w6 ⟨rfl, hb6⟩
  have hb := up hb hb6
  go_wp2_with fail
  refine (HM.out _ hb).mono ?_
  rintro e w7 ⟨rfl, hb7⟩
  have hb := up hb hb7
  go_wp2_with fail
  refine (HP2.out _ hb).mono ?_
  rintro e w8 ⟨rfl, hb8⟩
  have hB := up hb hb8
  clear HS1 HS2 HP1 HW HA1 HA2 HM HP2
  go_wp2
  go_ret
  exact ⟨rfl, hB⟩
end Go.Proofs.YtlhpplhhdeifhaaDoor
