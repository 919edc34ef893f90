/-
  Sections in memory; the contracts of codes' kind, right and sized.
-/
import Derived.Test.YtnhaapcpklfkpaaGreatDoorCd1
import Derived.Test.YtnhaapcpklfkpaaGreatDoorVDiv
import Derived.Test.YtnhaapcpklfkpaaGreatDoorVVal3
import Derived.Deep.QuietTactic
import Derived.BigQuiet
namespace Go.Proofs.YtnhaapcpklfkpaaGreatDoor
open Go.RowKit

def cn (ps : List Pc) (k : Nat) : Value := .int .i64 (cntK ps k)
/-- A section's cells: its pieces' row, how many there are of each kind, its place. -/
def secC (u : Value) (ps : List Pc) : List Value :=
  [u, cn ps 0, cn ps 1, cn ps 2, cn ps 3, cn ps 4, cn ps 5, .bool (plcOf ps).comma, .bool (plcOf ps).point, .int .i64 (plcOf ps).noughts, .int .i64 (plcOf ps).fixed, .int .i64 (plcOf ps).free]
/-- A section that lies somewhere. -/
def SecAt (w : World) (g off : Nat) (u : Value) (ps : List Pc) : Prop := g < w.heap.size ∧ ∀ j, j < 12 → w.cell? ⟨g, off + j, none⟩ = (secC u ps)[j]?
theorem SecAt.below {w w' : World} {g off : Nat} {u : Value} {ps : List Pc} (h : SecAt w g off u ps) (k : Below w.heap.size w w') : SecAt w' g off u ps :=
  ⟨Nat.lt_of_lt_of_le h.1 k.size, fun j hj => (k.cell (p := ⟨g, off + j, none⟩) h.1).trans (h.2 j hj)⟩
theorem SecAt.num {w : World} {g off : Nat} {u : Value} {ps : List Pc} (h : SecAt w g off u ps) (k : Nat) (hk : k < 6) : w.cell? ⟨g, off + 1 + k, none⟩ = some (.int .i64 (cntK ps k)) := by
  rw [Nat.add_assoc, Nat.add_comm 1 k, h.2 (k + 1) (by omega)]
  have : k = 0 ∨ k = 1 ∨ k = 2 ∨ k = 3 ∨ k = 4 ∨ k = 5 := by omega
  rcases this with rfl | rfl | rfl | rfl | rfl | rfl <;> rfl
theorem kind_1 {ps : List Pc} (h : 0 < cntK ps 1) : kindS ps = 1 := by unfold kindS; rw [if_pos h]
theorem kind_3 {ps : List Pc} (h1 : ¬ 0 < cntK ps 1) (h : 0 < cntK ps 3) : kindS ps = 3 := by unfold kindS; rw [if_neg h1, if_pos h]
theorem kind_4 {ps : List Pc} (h1 : ¬ 0 < cntK ps 1) (h3 : ¬ 0 < cntK ps 3) (h : 0 < cntK ps 4) : kindS ps = 4 := by unfold kindS; rw [if_neg h1, if_neg h3, if_pos h]
theorem kind_0 {ps : List Pc} (h1 : ¬ 0 < cntK ps 1) (h3 : ¬ 0 < cntK ps 3) (h : ¬ 0 < cntK ps 4) : kindS ps = 0 := by unfold kindS; rw [if_neg h1, if_neg h3, if_neg h]
set_option maxHeartbeats 1000000 in
theorem kind_any (g off : Nat) (u : Value) (ps : List Pc) (w : World) (h : SecAt w g off u ps) :
    Calls Tryz.prog 33 #[.pointer (some ⟨g, off, none⟩)] w fun e w' => e = .returned (.int .i64 (kindS ps)) ∧ w' = w := by
  have c1 := h.num 1 (by omega)
  have c3 := h.num 3 (by omega)
  have c4 := h.num 4 (by omega)
  clear h
  unfold kindS
  generalize cntK ps 1 = n1 at *
  generalize cntK ps 3 = n3 at *
  generalize cntK ps 4 = n4 at *
  by_cases h1 : 0 < n1
  · rw [if_pos h1]
    go_enter Tryz.func33, Tryz.ntmps33
    go_wp2
    go_ret
    exact ⟨rfl, rfl⟩
  · rw [if_neg h1]
    have h1' : ¬ (0 : Int) < (n1 : Int) := by omega
    by_cases h3 : 0 < n3
    · rw [if_pos h3]
      go_enter Tryz.func33, Tryz.ntmps33
      go_wp2
      go_ret
      exact ⟨rfl, rfl⟩
    · rw [if_neg h3]
      have h3' : ¬ (0 : Int) < (n3 : Int) := by omega
      by_cases h4 : 0 < n4
      · rw [if_pos h4]
        go_enter Tryz.func33, Tryz.ntmps33
        go_wp2
        go_ret
        exact ⟨rfl, rfl⟩
      · rw [if_neg h4]
        have h4' : ¬ (0 : Int) < (n4 : Int) := by omega
        go_enter Tryz.func33, Tryz.ntmps33
        go_wp2
        go_ret
        exact ⟨rfl, rfl⟩
theorem rightS_of {ps : List Pc} {K : Nat} (hk : kindS ps = K) : rightS ps = if K ≠ 0 ∧ cntK ps K < cntK ps 1 + cntK ps 3 + cntK ps 4 then false else if K ≠ 1 ∧ 0 < cntK ps 2 then false else decide (cntK ps 1 ≤ 1) && decide (cntK ps 2 ≤ 2) := by
  unfold rightS; rw [hk]
set_option maxHeartbeats 4000000 in
theorem cright_any1 (g off : Nat) (u : Value) (ps : List Pc) (w : World) (h : SecAt w g off u ps) (hn : ∀ k, cntK ps k ≤ 1000) (h1 : 0 < cntK ps 1) :
    Calls Tryz.prog 48 #[.pointer (some ⟨g, off, none⟩)] w fun e w' => e = .returned (.bool (rightS ps)) ∧ ∃ n, w' = w.drewN n := by
  have HK := hide (fun (W : World) (hW : SecAt W g off u ps) => kind_any g off u ps W hW)
  have HS := hide h
  have hk := kind_1 h1
  have c1 := h.num 1 (by omega)
  have c2 := h.num 2 (by omega)
  have c3 := h.num 3 (by omega)
  have c4 := h.num 4 (by omega)
  have b1 := hn 1
  have b2 := hn 2
  have b3 := hn 3
  have b4 := hn 4
  rw [hk] at HK
  clear h hn
  by_cases q : cntK ps 1 < cntK ps 1 + cntK ps 3 + cntK ps 4
  · -- other kinds besides
    have qi : (cntK ps 1 : Int) < (cntK ps 1 : Int) + (cntK ps 3 : Int) + (cntK ps 4 : Int) := by omega
    have HV : rightS ps = false := by
      rw [rightS_of hk]; rw [if_pos ⟨by decide, q⟩]
    rw [HV]
    clear HV hk
    generalize cntK ps 1 = n1 at *
    generalize cntK ps 2 = n2 at *
    generalize cntK ps 3 = n3 at *
    generalize cntK ps 4 = n4 at *
    go_enter Tryz.func48, Tryz.ntmps48
    go_wp2_with (go_at_call 33; refine (HK.out _ HS.out).mono ?_; rintro e wz ⟨rfl, hz⟩; subst wz)
    go_quiet (fail)
    go_wp2
    go_ret
    exact ⟨by first | rfl | exact congrArg (fun b => Ending.returned (.bool b)) (decide_eq_false (by omega)) | exact congrArg (fun b => Ending.returned (.bool b)) (decide_eq_true (by omega)), _, rfl⟩
  · -- this kind alone
    by_cases r : cntK ps 1 ≤ 1
    · by_cases s : cntK ps 2 ≤ 2
      · -- right
        have qi : ¬ (cntK ps 1 : Int) < (cntK ps 1 : Int) + (cntK ps 3 : Int) + (cntK ps 4 : Int) := by omega
        have m1 : (cntK ps 1 : Int) ≤ 1 := by omega
        have m2 : (cntK ps 2 : Int) ≤ 2 := by omega
        have HV : rightS ps = true := by
          rw [rightS_of hk]; rw [if_neg (fun x => q x.2)]; rw [if_neg (fun x => x.1 rfl)]; rw [decide_eq_true r, decide_eq_true s]; rfl
        rw [HV]
        clear HV hk
        generalize cntK ps 1 = n1 at *
        generalize cntK ps 2 = n2 at *
        generalize cntK ps 3 = n3 at *
        generalize cntK ps 4 = n4 at *
        go_enter Tryz.func48, Tryz.ntmps48
        go_wp2_with (go_at_call 33; refine (HK.out _ HS.out).mono ?_; rintro e wz ⟨rfl, hz⟩; subst wz)
        go_quiet (fail)
        go_wp2
        go_ret
        exact ⟨by first | rfl | exact congrArg (fun b => Ending.returned (.bool b)) (decide_eq_false (by omega)) | exact congrArg (fun b => Ending.returned (.bool b)) (decide_eq_true (by omega)), _, rfl⟩
      · -- too many hundreds
        have qi : ¬ (cntK ps 1 : Int) < (cntK ps 1 : Int) + (cntK ps 3 : Int) + (cntK ps 4 : Int) := by omega
        have m1 : (cntK ps 1 : Int) ≤ 1 := by omega
        have m2 : ¬ (cntK ps 2 : Int) ≤ 2 := by omega
        have HV : rightS ps = false := by
          rw [rightS_of hk]; rw [if_neg (fun x => q x.2)]; rw [if_neg (fun x => x.1 rfl)]; rw [decide_eq_true r, decide_eq_false s]; rfl
        rw [HV]
        clear HV hk
        generalize cntK ps 1 = n1 at *
        generalize cntK ps 2 = n2 at *
        generalize cntK ps 3 = n3 at *
        generalize cntK ps 4 = n4 at *
        go_enter Tryz.func48, Tryz.ntmps48
        go_wp2_with (go_at_call 33; refine (HK.out _ HS.out).mono ?_; rintro e wz ⟨rfl, hz⟩; subst wz)
        go_quiet (fail)
        go_wp2
        go_ret
        exact ⟨by first | rfl | exact congrArg (fun b => Ending.returned (.bool b)) (decide_eq_false (by omega)) | exact congrArg (fun b => Ending.returned (.bool b)) (decide_eq_true (by omega)), _, rfl⟩
    · -- two numbers
      have qi : ¬ (cntK ps 1 : Int) < (cntK ps 1 : Int) + (cntK ps 3 : Int) + (cntK ps 4 : Int) := by omega
      have m1 : ¬ (cntK ps 1 : Int) ≤ 1 := by omega
      have HV : rightS ps = false := by
        rw [rightS_of hk]; rw [if_neg (fun x => q x.2)]; rw [if_neg (fun x => x.1 rfl)]; rw [decide_eq_false r]; rfl
      rw [HV]
      clear HV hk
      generalize cntK ps 1 = n1 at *
      generalize cntK ps 2 = n2 at *
      generalize cntK ps 3 = n3 at *
      generalize cntK ps 4 = n4 at *
      go_enter Tryz.func48, Tryz.ntmps48
      go_wp2_with (go_at_call 33; refine (HK.out _ HS.out).mono ?_; rintro e wz ⟨rfl, hz⟩; subst wz)
      go_quiet (fail)
      go_wp2
      go_ret
      exact ⟨by first | rfl | exact congrArg (fun b => Ending.returned (.bool b)) (decide_eq_false (by omega)) | exact congrArg (fun b => Ending.returned (.bool b)) (decide_eq_true (by omega)), _, rfl⟩
set_option maxHeartbeats 4000000 in
theorem cright_any3 (g off : Nat) (u : Value) (ps : List Pc) (w : World) (h : SecAt w g off u ps) (hn : ∀ k, cntK ps k ≤ 1000) (h1 : ¬ 0 < cntK ps 1) (h3 : 0 < cntK ps 3) :
    Calls Tryz.prog 48 #[.pointer (some ⟨g, off, none⟩)] w fun e w' => e = .returned (.bool (rightS ps)) ∧ ∃ n, w' = w.drewN n := by
  have HK := hide (fun (W : World) (hW : SecAt W g off u ps) => kind_any g off u ps W hW)
  have HS := hide h
  have hk := kind_3 h1 h3
  have c1 := h.num 1 (by omega)
  have c2 := h.num 2 (by omega)
  have c3 := h.num 3 (by omega)
  have c4 := h.num 4 (by omega)
  have b1 := hn 1
  have b2 := hn 2
  have b3 := hn 3
  have b4 := hn 4
  rw [hk] at HK
  clear h hn
  by_cases q : cntK ps 3 < cntK ps 1 + cntK ps 3 + cntK ps 4
  · -- other kinds besides
    have qi : (cntK ps 3 : Int) < (cntK ps 1 : Int) + (cntK ps 3 : Int) + (cntK ps 4 : Int) := by omega
    have HV : rightS ps = false := by
      rw [rightS_of hk]; rw [if_pos ⟨by decide, q⟩]
    rw [HV]
    clear HV hk
    generalize cntK ps 1 = n1 at *
    generalize cntK ps 2 = n2 at *
    generalize cntK ps 3 = n3 at *
    generalize cntK ps 4 = n4 at *
    go_enter Tryz.func48, Tryz.ntmps48
    go_wp2_with (go_at_call 33; refine (HK.out _ HS.out).mono ?_; rintro e wz ⟨rfl, hz⟩; subst wz)
    go_quiet (fail)
    go_wp2
    go_ret
    exact ⟨by first | rfl | exact congrArg (fun b => Ending.returned (.bool b)) (decide_eq_false (by omega)) | exact congrArg (fun b => Ending.returned (.bool b)) (decide_eq_true (by omega)), _, rfl⟩
  · -- this kind alone
    by_cases r : 0 < cntK ps 2
    · -- a hundred without a number
      have qi : ¬ (cntK ps 3 : Int) < (cntK ps 1 : Int) + (cntK ps 3 : Int) + (cntK ps 4 : Int) := by omega
      have m1 : (cntK ps 1 : Int) ≤ 1 := by omega
      have ri : 0 < (cntK ps 2 : Int) := by omega
      have HV : rightS ps = false := by
        rw [rightS_of hk]; rw [if_neg (fun x => q x.2)]; rw [if_pos ⟨by decide, r⟩]
      rw [HV]
      clear HV hk
      generalize cntK ps 1 = n1 at *
      generalize cntK ps 2 = n2 at *
      generalize cntK ps 3 = n3 at *
      generalize cntK ps 4 = n4 at *
      go_enter Tryz.func48, Tryz.ntmps48
      go_wp2_with (go_at_call 33; refine (HK.out _ HS.out).mono ?_; rintro e wz ⟨rfl, hz⟩; subst wz)
      go_quiet (fail)
      go_wp2
      go_ret
      exact ⟨by first | rfl | exact congrArg (fun b => Ending.returned (.bool b)) (decide_eq_false (by omega)) | exact congrArg (fun b => Ending.returned (.bool b)) (decide_eq_true (by omega)), _, rfl⟩
    · -- none
      have qi : ¬ (cntK ps 3 : Int) < (cntK ps 1 : Int) + (cntK ps 3 : Int) + (cntK ps 4 : Int) := by omega
      have m1 : (cntK ps 1 : Int) ≤ 1 := by omega
      have ri : ¬ 0 < (cntK ps 2 : Int) := by omega
      have m2 : (cntK ps 2 : Int) ≤ 2 := by omega
      have HV : rightS ps = true := by
        rw [rightS_of hk]; rw [if_neg (fun x => q x.2)]; rw [if_neg (fun x => r x.2), decide_eq_true (by omega), decide_eq_true (by omega)]; rfl
      rw [HV]
      clear HV hk
      generalize cntK ps 1 = n1 at *
      generalize cntK ps 2 = n2 at *
      generalize cntK ps 3 = n3 at *
      generalize cntK ps 4 = n4 at *
      go_enter Tryz.func48, Tryz.ntmps48
      go_wp2_with (go_at_call 33; refine (HK.out _ HS.out).mono ?_; rintro e wz ⟨rfl, hz⟩; subst wz)
      go_quiet (fail)
      go_wp2
      go_ret
      exact ⟨by first | rfl | exact congrArg (fun b => Ending.returned (.bool b)) (decide_eq_false (by omega)) | exact congrArg (fun b => Ending.returned (.bool b)) (decide_eq_true (by omega)), _, rfl⟩
set_option maxHeartbeats 4000000 in
theorem cright_any4 (g off : Nat) (u : Value) (ps : List Pc) (w : World) (h : SecAt w g off u ps) (hn : ∀ k, cntK ps k ≤ 1000) (h1 : ¬ 0 < cntK ps 1) (h3 : ¬ 0 < cntK ps 3) (h4 : 0 < cntK ps 4) :
    Calls Tryz.prog 48 #[.pointer (some ⟨g, off, none⟩)] w fun e w' => e = .returned (.bool (rightS ps)) ∧ ∃ n, w' = w.drewN n := by
  have HK := hide (fun (W : World) (hW : SecAt W g off u ps) => kind_any g off u ps W hW)
  have HS := hide h
  have hk := kind_4 h1 h3 h4
  have c1 := h.num 1 (by omega)
  have c2 := h.num 2 (by omega)
  have c3 := h.num 3 (by omega)
  have c4 := h.num 4 (by omega)
  have b1 := hn 1
  have b2 := hn 2
  have b3 := hn 3
  have b4 := hn 4
  rw [hk] at HK
  clear h hn
  have q : ¬ cntK ps 4 < cntK ps 1 + cntK ps 3 + cntK ps 4 := by omega
  by_cases r : 0 < cntK ps 2
  · -- a hundred without a number
    have qi : ¬ (cntK ps 4 : Int) < (cntK ps 1 : Int) + (cntK ps 3 : Int) + (cntK ps 4 : Int) := by omega
    have m1 : (cntK ps 1 : Int) ≤ 1 := by omega
    have ri : 0 < (cntK ps 2 : Int) := by omega
    have HV : rightS ps = false := by
      rw [rightS_of hk]; rw [if_neg (fun x => q x.2)]; rw [if_pos ⟨by decide, r⟩]
    rw [HV]
    clear HV hk
    generalize cntK ps 1 = n1 at *
    generalize cntK ps 2 = n2 at *
    generalize cntK ps 3 = n3 at *
    generalize cntK ps 4 = n4 at *
    go_enter Tryz.func48, Tryz.ntmps48
    go_wp2_with (go_at_call 33; refine (HK.out _ HS.out).mono ?_; rintro e wz ⟨rfl, hz⟩; subst wz)
    go_quiet (fail)
    go_wp2
    go_ret
    exact ⟨by first | rfl | exact congrArg (fun b => Ending.returned (.bool b)) (decide_eq_false (by omega)) | exact congrArg (fun b => Ending.returned (.bool b)) (decide_eq_true (by omega)), _, rfl⟩
  · -- none
    have qi : ¬ (cntK ps 4 : Int) < (cntK ps 1 : Int) + (cntK ps 3 : Int) + (cntK ps 4 : Int) := by omega
    have m1 : (cntK ps 1 : Int) ≤ 1 := by omega
    have ri : ¬ 0 < (cntK ps 2 : Int) := by omega
    have m2 : (cntK ps 2 : Int) ≤ 2 := by omega
    have HV : rightS ps = true := by
      rw [rightS_of hk]; rw [if_neg (fun x => q x.2)]; rw [if_neg (fun x => r x.2), decide_eq_true (by omega), decide_eq_true (by omega)]; rfl
    rw [HV]
    clear HV hk
    generalize cntK ps 1 = n1 at *
    generalize cntK ps 2 = n2 at *
    generalize cntK ps 3 = n3 at *
    generalize cntK ps 4 = n4 at *
    go_enter Tryz.func48, Tryz.ntmps48
    go_wp2_with (go_at_call 33; refine (HK.out _ HS.out).mono ?_; rintro e wz ⟨rfl, hz⟩; subst wz)
    go_quiet (fail)
    go_wp2
    go_ret
    exact ⟨by first | rfl | exact congrArg (fun b => Ending.returned (.bool b)) (decide_eq_false (by omega)) | exact congrArg (fun b => Ending.returned (.bool b)) (decide_eq_true (by omega)), _, rfl⟩
set_option maxHeartbeats 4000000 in
theorem cright_any0 (g off : Nat) (u : Value) (ps : List Pc) (w : World) (h : SecAt w g off u ps) (hn : ∀ k, cntK ps k ≤ 1000) (h1 : ¬ 0 < cntK ps 1) (h3 : ¬ 0 < cntK ps 3) (h4 : ¬ 0 < cntK ps 4) :
    Calls Tryz.prog 48 #[.pointer (some ⟨g, off, none⟩)] w fun e w' => e = .returned (.bool (rightS ps)) ∧ ∃ n, w' = w.drewN n := by
  have HK := hide (fun (W : World) (hW : SecAt W g off u ps) => kind_any g off u ps W hW)
  have HS := hide h
  have hk := kind_0 h1 h3 h4
  have c1 := h.num 1 (by omega)
  have c2 := h.num 2 (by omega)
  have c3 := h.num 3 (by omega)
  have c4 := h.num 4 (by omega)
  have b1 := hn 1
  have b2 := hn 2
  have b3 := hn 3
  have b4 := hn 4
  rw [hk] at HK
  clear h hn
  by_cases r : 0 < cntK ps 2
  · -- a hundred without a number
    have m1 : (cntK ps 1 : Int) ≤ 1 := by omega
    have ri : 0 < (cntK ps 2 : Int) := by omega
    have HV : rightS ps = false := by
      rw [rightS_of hk]; rw [if_neg (fun x => x.1 rfl)]; rw [if_pos ⟨by decide, r⟩]
    rw [HV]
    clear HV hk
    generalize cntK ps 1 = n1 at *
    generalize cntK ps 2 = n2 at *
    generalize cntK ps 3 = n3 at *
    generalize cntK ps 4 = n4 at *
    go_enter Tryz.func48, Tryz.ntmps48
    go_wp2_with (go_at_call 33; refine (HK.out _ HS.out).mono ?_; rintro e wz ⟨rfl, hz⟩; subst wz)
    go_quiet (fail)
    go_wp2
    go_ret
    exact ⟨by first | rfl | exact congrArg (fun b => Ending.returned (.bool b)) (decide_eq_false (by omega)) | exact congrArg (fun b => Ending.returned (.bool b)) (decide_eq_true (by omega)), _, rfl⟩
  · -- none
    have m1 : (cntK ps 1 : Int) ≤ 1 := by omega
    have ri : ¬ 0 < (cntK ps 2 : Int) := by omega
    have m2 : (cntK ps 2 : Int) ≤ 2 := by omega
    have HV : rightS ps = true := by
      rw [rightS_of hk]; rw [if_neg (fun x => x.1 rfl)]; rw [if_neg (fun x => r x.2), decide_eq_true (by omega), decide_eq_true (by omega)]; rfl
    rw [HV]
    clear HV hk
    generalize cntK ps 1 = n1 at *
    generalize cntK ps 2 = n2 at *
    generalize cntK ps 3 = n3 at *
    generalize cntK ps 4 = n4 at *
    go_enter Tryz.func48, Tryz.ntmps48
    go_wp2_with (go_at_call 33; refine (HK.out _ HS.out).mono ?_; rintro e wz ⟨rfl, hz⟩; subst wz)
    go_quiet (fail)
    go_wp2
    go_ret
    exact ⟨by first | rfl | exact congrArg (fun b => Ending.returned (.bool b)) (decide_eq_false (by omega)) | exact congrArg (fun b => Ending.returned (.bool b)) (decide_eq_true (by omega)), _, rfl⟩
theorem cright_any (g off : Nat) (u : Value) (ps : List Pc) (w : World) (h : SecAt w g off u ps) (hn : ∀ k, cntK ps k ≤ 1000) :
    Calls Tryz.prog 48 #[.pointer (some ⟨g, off, none⟩)] w fun e w' => e = .returned (.bool (rightS ps)) ∧ ∃ n, w' = w.drewN n := by
  by_cases h1 : 0 < cntK ps 1
  · exact cright_any1 g off u ps w h hn h1
  by_cases h3 : 0 < cntK ps 3
  · exact cright_any3 g off u ps w h hn h1 h3
  by_cases h4 : 0 < cntK ps 4
  · exact cright_any4 g off u ps w h hn h1 h3 h4
  · exact cright_any0 g off u ps w h hn h1 h3 h4
end Go.Proofs.YtnhaapcpklfkpaaGreatDoor
