/-
  What the answer's Kind tells of a section's pieces (plain words); what its Read reads.
-/
import Derived.Test.YtnhaapcpklfkpaaGreatDoorRc5
namespace Go.Proofs.YtnhaapcpklfkpaaGreatDoor
open Go.RowKit
set_option linter.unusedSimpArgs false

/-- A piece with the answer's number of its kind. -/
def kkP (p : Pc) : Pc := ⟨kk p.k, p.t⟩
theorem kk_inj {a b : Nat} (ha : a ≤ 5) (hb : b ≤ 5) : (kk a = kk b) ↔ a = b := by
  have h1 : a = 0 ∨ a = 1 ∨ a = 2 ∨ a = 3 ∨ a = 4 ∨ a = 5 := by omega
  have h2 : b = 0 ∨ b = 1 ∨ b = 2 ∨ b = 3 ∨ b = 4 ∨ b = 5 := by omega
  rcases h1 with rfl | rfl | rfl | rfl | rfl | rfl <;> rcases h2 with rfl | rfl | rfl | rfl | rfl | rfl <;> simp [kk]
theorem cnt_kk {ps : List Pc} (h : ∀ p ∈ ps, p.k ≤ 5) {k : Nat} (hk : k ≤ 5) : cntK (ps.map kkP) (kk k) = cntK ps k := by
  unfold cntK
  rw [List.filter_map, List.length_map]
  congr 1
  apply List.filter_congr
  intro p hp
  show (kk p.k == kk k) = (p.k == k)
  have := kk_inj (h p hp) hk
  by_cases e : p.k = k
  · rw [e]; simp
  · have e2 : kk p.k ≠ kk k := fun x => e (this.1 x)
    rw [beq_eq_false_iff_ne.2 e, beq_eq_false_iff_ne.2 e2]
theorem rkind_is {ps : List Pc} (h : ∀ p ∈ ps, p.k ≤ 5) : rKind (ps.map kkP) = if rightS ps then (kk (kindS ps) : Int) else -1 := by
  have q1 : cntK (ps.map kkP) 1 = cntK ps 1 := cnt_kk h (k := 1) (by omega)
  have q2 : cntK (ps.map kkP) 2 = cntK ps 3 := cnt_kk h (k := 3) (by omega)
  have q3 : cntK (ps.map kkP) 3 = cntK ps 4 := cnt_kk h (k := 4) (by omega)
  have q4 : cntK (ps.map kkP) 4 = cntK ps 2 := cnt_kk h (k := 2) (by omega)
  unfold rKind
  simp only [kSt, q1, q2, q3, q4, Nat.zero_add, Nat.reduceAdd]
  unfold rightS kindS
  by_cases a1 : 0 < cntK ps 1 <;> by_cases a3 : 0 < cntK ps 3 <;> by_cases a4 : 0 < cntK ps 4 <;> by_cases a2 : 0 < cntK ps 2 <;> by_cases b1 : 1 < cntK ps 1 <;> by_cases b2 : 2 < cntK ps 2 <;> simp [a1, a2, a3, a4, b1, b2, kk] <;> omega
end Go.Proofs.YtnhaapcpklfkpaaGreatDoor
