/-
  The contracts of codes.Check and codes.Plain.
-/
import Derived.Test.YtnhaapcpklfkpaaGreatDoorCd8c
namespace Go.Proofs.YtnhaapcpklfkpaaGreatDoor
open Go.RowKit
set_option linter.unusedSimpArgs false

def secsOpt (l : List UInt8) : Option (List (List Pc)) := if 60 < l.length then none else readR l
theorem secs_all (l : List UInt8) (w : World) (hl : l.length ≤ 9223372036854775807) (hc : CellOk w) :
    Calls Tryz.prog 7 #[.string ⟨l.toArray⟩] w (SecsQ w (checkR l) (secsOpt l)) := by
  unfold checkR secsOpt
  rcases sections_any l w hl hc with h | ⟨h1, ss, h2, h3⟩
  · by_cases hb : 60 < l.length
    · rw [if_pos hb] at h ⊢
      rw [if_pos hb] at h ⊢
      exact h
    · rw [if_neg hb] at h ⊢
      rw [if_neg hb] at h ⊢
      cases hr : readR l with
      | none => rw [hr] at h; simpa [hr] using h
      | some ss =>
        rw [hr] at h
        exact h.mono fun e w' hq => by simpa [SecsQ] using hq
  · rw [if_neg (show ¬ 60 < l.length by omega), if_neg (show ¬ 60 < l.length by omega), h2]
    simpa using h3
theorem opt_check {l : List UInt8} (h : secsOpt l = none) : checkR l ≠ 0 := by
  unfold secsOpt at h
  unfold checkR
  split at h
  · rw [if_pos (by assumption)]; decide
  · rw [if_neg (by assumption), h]; simp
theorem opt_zero {l : List UInt8} {ss : List (List Pc)} (h : secsOpt l = some ss) : checkR l = 0 := by
  unfold secsOpt at h
  unfold checkR
  split at h
  · cases h
  · rw [if_neg (by assumption), h]; simp
set_option maxHeartbeats 1000000 in
theorem Check_any (l : List UInt8) (w : World) (hl : l.length ≤ 9223372036854775807) (hc : CellOk w) :
    Calls Tryz.prog 22 #[.string ⟨l.toArray⟩] w fun e w' => e = .returned (.int .i64 (checkR l)) ∧ Below w.heap.size w w' := by
  have HS := hide (secs_all l w hl hc)
  clear hc
  cases ho : secsOpt l with
  | none =>
    have HS2 : Hid (Calls Tryz.prog 7 #[.string ⟨l.toArray⟩] w fun e w' => e = .returned (.tuple #[.slice none 0 0, .int .i64 (checkR l)]) ∧ Below w.heap.size w w') := hide (HS.out.mono fun e w' hq => by rw [ho] at hq; exact ⟨hq.2, hq.1⟩)
    generalize checkR l = E at *
    go_enter Tryz.func22, Tryz.ntmps22
    go_wp2_with (go_at_call 7; refine HS2.out.mono ?_; rintro e w1 ⟨rfl, hb1⟩)
    go_ret
    exact ⟨rfl, hb1⟩
  | some ss =>
    have HS2 : Hid (Calls Tryz.prog 7 #[.string ⟨l.toArray⟩] w fun e w' => ∃ u, e = .returned (.tuple #[u, .int .i64 0]) ∧ Below w.heap.size w w') := hide (HS.out.mono fun e w' hq => by rw [ho] at hq; obtain ⟨h1, _, _, g, cap, G, _, _, h2, _⟩ := hq; exact ⟨_, h2, h1⟩)
    rw [opt_zero ho]
    go_enter Tryz.func22, Tryz.ntmps22
    go_wp2_with (go_at_call 7; refine HS2.out.mono ?_; rintro e w1 ⟨u, rfl, hb1⟩)
    go_ret
    exact ⟨rfl, hb1⟩
/-- Has a format words alone? -/
def plainR (l : List UInt8) : Bool := match secsOpt l with
  | none => false
  | some ss => !ss.any notWordsB
theorem ss_len {n₀ B : Nat} {W : World} {g cap : Nat} {G : List (Value × List Pc)} {C : Array Value} {l : List UInt8} {ss : List (List Pc)} (_ : RS n₀ B W g cap G C) (hG : G.map Prod.snd = ss) (ho : secsOpt l = some ss) : 1 ≤ G.length ∧ G.length ≤ 3 := by
  unfold secsOpt at ho
  split at ho
  · cases ho
  · unfold readR at ho
    split at ho
    · cases ho
    · split at ho
      · rename_i hx
        cases ho
        simp only [Bool.and_eq_true, decide_eq_true_eq] at hx
        have := congrArg List.length hG
        rw [List.length_map] at this
        rename_i ps _ 
        have h1 : 1 ≤ (secsR ps).length := by simp [secsR]
        omega
      · cases ho
set_option maxHeartbeats 1000000 in
theorem Plain_any (l : List UInt8) (w : World) (hl : l.length ≤ 9223372036854775807) (hc : CellOk w) :
    Calls Tryz.prog 23 #[.string ⟨l.toArray⟩] w fun e w' => e = .returned (.bool (plainR l)) ∧ Below w.heap.size w w' := by
  have HS := hide (secs_all l w hl hc)
  clear hc
  unfold plainR
  cases ho : secsOpt l with
  | none =>
    have HS2 : Hid (Calls Tryz.prog 7 #[.string ⟨l.toArray⟩] w fun e w' => e = .returned (.tuple #[.slice none 0 0, .int .i64 (checkR l)]) ∧ Below w.heap.size w w') := hide (HS.out.mono fun e w' hq => by rw [ho] at hq; exact ⟨hq.2, hq.1⟩)
    have he : (checkR l == 0) = false := by rw [beq_eq_false_iff_ne]; exact opt_check ho
    simp only
    generalize checkR l = E at *
    go_enter Tryz.func23, Tryz.ntmps23
    go_wp2_with (go_at_call 7; refine HS2.out.mono ?_; rintro e w1 ⟨rfl, hb1⟩)
    go_ret
    exact ⟨rfl, hb1⟩
  | some ss =>
    have hmf : ∀ (fn : Fn) (first cap : Array Value) (w : World), (Instr.makeFunc fn first cap).run Tryz.prog w = .ok (.func fn first cap) w := fun _ _ _ _ => rfl
    have HS2 : Hid (Calls Tryz.prog 7 #[.string ⟨l.toArray⟩] w fun e w' => ∃ g cap G, e = .returned (.tuple #[.slice (some ⟨g, 0, none⟩) G.length cap, .int .i64 0]) ∧ SecsAt w' g G ∧ G.length ≤ 3 ∧ G.map Prod.snd = ss ∧ Below w.heap.size w w') := hide (HS.out.mono fun e w' hq => by
      rw [ho] at hq
      obtain ⟨h1, _, _, g, cap, G, _, _, h2, h3, h4⟩ := hq
      exact ⟨g, cap, G, h2, h3.secs, (ss_len h3 h4 ho).2, h4, h1⟩)
    simp only
    clear HS
    go_enter Tryz.func23, Tryz.ntmps23
    go_wp2_with (first | (go_at_call 7; refine HS2.out.mono ?_; rintro e w1 ⟨g, cap, G, rfl, hsec, hGl, hGm, hb1⟩; have HB1 := hide hb1; have HGm := hide hGm; have HC := hide (contains_words g cap G w1 hsec (by omega)); clear hb1 hGm) | (go_at_call 43; refine HC.out.mono ?_; rintro e w2 ⟨rfl, hb2⟩))
    go_ret
    refine ⟨?_, up HB1.out hb2⟩
    rw [← HGm.out, List.any_map]
    rfl
end Go.Proofs.YtnhaapcpklfkpaaGreatDoor
