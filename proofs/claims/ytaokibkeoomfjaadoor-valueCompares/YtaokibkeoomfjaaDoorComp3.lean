/-
  The contracts of value's troubleOfBoth, Compare, Alike.
-/
import Derived.Test.YtaokibkeoomfjaaDoorComp2
namespace Go.Proofs.YtaokibkeoomfjaaDoor
open Go.RowKit

theorem Box2.below {W w' w'' : World} {p q : Nat} {k n : Int} {s : ByteArray} {b : Bool} {c : Int} {k' n' : Int} {s' : ByteArray} {b' : Bool} {c' : Int}
    (h : w'.cell? ⟨p, 0, none⟩ = some (.int .i64 k) ∧ w'.cell? ⟨p, 1, none⟩ = some (.int .i64 n) ∧ w'.cell? ⟨p, 2, none⟩ = some (.string s) ∧ w'.cell? ⟨p, 3, none⟩ = some (.bool b) ∧ w'.cell? ⟨p, 4, none⟩ = some (.int .i64 c) ∧ w'.cell? ⟨q, 0, none⟩ = some (.int .i64 k') ∧ w'.cell? ⟨q, 1, none⟩ = some (.int .i64 n') ∧ w'.cell? ⟨q, 2, none⟩ = some (.string s') ∧ w'.cell? ⟨q, 3, none⟩ = some (.bool b') ∧ w'.cell? ⟨q, 4, none⟩ = some (.int .i64 c') ∧ p < w'.heap.size ∧ q < w'.heap.size ∧ Below W.heap.size W w') (z : Below w'.heap.size w' w'') :
    w''.cell? ⟨p, 0, none⟩ = some (.int .i64 k) ∧ w''.cell? ⟨p, 1, none⟩ = some (.int .i64 n) ∧ w''.cell? ⟨p, 2, none⟩ = some (.string s) ∧ w''.cell? ⟨p, 3, none⟩ = some (.bool b) ∧ w''.cell? ⟨p, 4, none⟩ = some (.int .i64 c) ∧ w''.cell? ⟨q, 0, none⟩ = some (.int .i64 k') ∧ w''.cell? ⟨q, 1, none⟩ = some (.int .i64 n') ∧ w''.cell? ⟨q, 2, none⟩ = some (.string s') ∧ w''.cell? ⟨q, 3, none⟩ = some (.bool b') ∧ w''.cell? ⟨q, 4, none⟩ = some (.int .i64 c') ∧ p < w''.heap.size ∧ q < w''.heap.size ∧ Below W.heap.size W w'' := by
  obtain ⟨a0, a1, a2, a3, a4, b0, b1, b2, b3, b4, l, m, hb⟩ := h
  exact ⟨by rw [z.cell (p := ⟨p, 0, none⟩) l]; exact a0, by rw [z.cell (p := ⟨p, 1, none⟩) l]; exact a1, by rw [z.cell (p := ⟨p, 2, none⟩) l]; exact a2, by rw [z.cell (p := ⟨p, 3, none⟩) l]; exact a3, by rw [z.cell (p := ⟨p, 4, none⟩) l]; exact a4, by rw [z.cell (p := ⟨q, 0, none⟩) m]; exact b0, by rw [z.cell (p := ⟨q, 1, none⟩) m]; exact b1, by rw [z.cell (p := ⟨q, 2, none⟩) m]; exact b2, by rw [z.cell (p := ⟨q, 3, none⟩) m]; exact b3, by rw [z.cell (p := ⟨q, 4, none⟩) m]; exact b4, Nat.lt_of_lt_of_le l z.size, Nat.lt_of_lt_of_le m z.size, hb.trans (z.mono hb.size)⟩
theorem Box2.drew {W w' : World} {p q : Nat} {k n : Int} {s : ByteArray} {b : Bool} {c : Int} {k' n' : Int} {s' : ByteArray} {b' : Bool} {c' : Int}
    (h : w'.cell? ⟨p, 0, none⟩ = some (.int .i64 k) ∧ w'.cell? ⟨p, 1, none⟩ = some (.int .i64 n) ∧ w'.cell? ⟨p, 2, none⟩ = some (.string s) ∧ w'.cell? ⟨p, 3, none⟩ = some (.bool b) ∧ w'.cell? ⟨p, 4, none⟩ = some (.int .i64 c) ∧ w'.cell? ⟨q, 0, none⟩ = some (.int .i64 k') ∧ w'.cell? ⟨q, 1, none⟩ = some (.int .i64 n') ∧ w'.cell? ⟨q, 2, none⟩ = some (.string s') ∧ w'.cell? ⟨q, 3, none⟩ = some (.bool b') ∧ w'.cell? ⟨q, 4, none⟩ = some (.int .i64 c') ∧ p < w'.heap.size ∧ q < w'.heap.size ∧ Below W.heap.size W w') :
    w'.drew.cell? ⟨p, 0, none⟩ = some (.int .i64 k) ∧ w'.drew.cell? ⟨p, 1, none⟩ = some (.int .i64 n) ∧ w'.drew.cell? ⟨p, 2, none⟩ = some (.string s) ∧ w'.drew.cell? ⟨p, 3, none⟩ = some (.bool b) ∧ w'.drew.cell? ⟨p, 4, none⟩ = some (.int .i64 c) ∧ w'.drew.cell? ⟨q, 0, none⟩ = some (.int .i64 k') ∧ w'.drew.cell? ⟨q, 1, none⟩ = some (.int .i64 n') ∧ w'.drew.cell? ⟨q, 2, none⟩ = some (.string s') ∧ w'.drew.cell? ⟨q, 3, none⟩ = some (.bool b') ∧ w'.drew.cell? ⟨q, 4, none⟩ = some (.int .i64 c') ∧ p < w'.drew.heap.size ∧ q < w'.drew.heap.size ∧ Below W.heap.size W w'.drew := by
  obtain ⟨a0, a1, a2, a3, a4, b0, b1, b2, b3, b4, l, m, hb⟩ := h
  exact ⟨a0, a1, a2, a3, a4, b0, b1, b2, b3, b4, l, m, hb.drew⟩
theorem Box2.out {W w' : World} {p q : Nat} {k n : Int} {s : ByteArray} {b : Bool} {c : Int} {k' n' : Int} {s' : ByteArray} {b' : Bool} {c' : Int}
    (h : w'.cell? ⟨p, 0, none⟩ = some (.int .i64 k) ∧ w'.cell? ⟨p, 1, none⟩ = some (.int .i64 n) ∧ w'.cell? ⟨p, 2, none⟩ = some (.string s) ∧ w'.cell? ⟨p, 3, none⟩ = some (.bool b) ∧ w'.cell? ⟨p, 4, none⟩ = some (.int .i64 c) ∧ w'.cell? ⟨q, 0, none⟩ = some (.int .i64 k') ∧ w'.cell? ⟨q, 1, none⟩ = some (.int .i64 n') ∧ w'.cell? ⟨q, 2, none⟩ = some (.string s') ∧ w'.cell? ⟨q, 3, none⟩ = some (.bool b') ∧ w'.cell? ⟨q, 4, none⟩ = some (.int .i64 c') ∧ p < w'.heap.size ∧ q < w'.heap.size ∧ Below W.heap.size W w') : Below W.heap.size W w' := by
  obtain ⟨a0, a1, a2, a3, a4, b0, b1, b2, b3, b4, l, m, hb⟩ := h
  exact hb
theorem Box2.new (w : World) (k n : Int) (s : ByteArray) (b : Bool) (c : Int) (k' n' : Int) (s' : ByteArray) (b' : Bool) (c' : Int) :
    ((w.alloc (.cells #[.int .i64 k, .int .i64 n, .string s, .bool b, .int .i64 c] 25)).alloc (.cells #[.int .i64 k', .int .i64 n', .string s', .bool b', .int .i64 c'] 25)).cell? ⟨w.heap.size, 0, none⟩ = some (.int .i64 k) ∧ ((w.alloc (.cells #[.int .i64 k, .int .i64 n, .string s, .bool b, .int .i64 c] 25)).alloc (.cells #[.int .i64 k', .int .i64 n', .string s', .bool b', .int .i64 c'] 25)).cell? ⟨w.heap.size, 1, none⟩ = some (.int .i64 n) ∧ ((w.alloc (.cells #[.int .i64 k, .int .i64 n, .string s, .bool b, .int .i64 c] 25)).alloc (.cells #[.int .i64 k', .int .i64 n', .string s', .bool b', .int .i64 c'] 25)).cell? ⟨w.heap.size, 2, none⟩ = some (.string s) ∧ ((w.alloc (.cells #[.int .i64 k, .int .i64 n, .string s, .bool b, .int .i64 c] 25)).alloc (.cells #[.int .i64 k', .int .i64 n', .string s', .bool b', .int .i64 c'] 25)).cell? ⟨w.heap.size, 3, none⟩ = some (.bool b) ∧ ((w.alloc (.cells #[.int .i64 k, .int .i64 n, .string s, .bool b, .int .i64 c] 25)).alloc (.cells #[.int .i64 k', .int .i64 n', .string s', .bool b', .int .i64 c'] 25)).cell? ⟨w.heap.size, 4, none⟩ = some (.int .i64 c) ∧ ((w.alloc (.cells #[.int .i64 k, .int .i64 n, .string s, .bool b, .int .i64 c] 25)).alloc (.cells #[.int .i64 k', .int .i64 n', .string s', .bool b', .int .i64 c'] 25)).cell? ⟨(w.heap.size + 1), 0, none⟩ = some (.int .i64 k') ∧ ((w.alloc (.cells #[.int .i64 k, .int .i64 n, .string s, .bool b, .int .i64 c] 25)).alloc (.cells #[.int .i64 k', .int .i64 n', .string s', .bool b', .int .i64 c'] 25)).cell? ⟨(w.heap.size + 1), 1, none⟩ = some (.int .i64 n') ∧ ((w.alloc (.cells #[.int .i64 k, .int .i64 n, .string s, .bool b, .int .i64 c] 25)).alloc (.cells #[.int .i64 k', .int .i64 n', .string s', .bool b', .int .i64 c'] 25)).cell? ⟨(w.heap.size + 1), 2, none⟩ = some (.string s') ∧ ((w.alloc (.cells #[.int .i64 k, .int .i64 n, .string s, .bool b, .int .i64 c] 25)).alloc (.cells #[.int .i64 k', .int .i64 n', .string s', .bool b', .int .i64 c'] 25)).cell? ⟨(w.heap.size + 1), 3, none⟩ = some (.bool b') ∧ ((w.alloc (.cells #[.int .i64 k, .int .i64 n, .string s, .bool b, .int .i64 c] 25)).alloc (.cells #[.int .i64 k', .int .i64 n', .string s', .bool b', .int .i64 c'] 25)).cell? ⟨(w.heap.size + 1), 4, none⟩ = some (.int .i64 c') ∧ w.heap.size < ((w.alloc (.cells #[.int .i64 k, .int .i64 n, .string s, .bool b, .int .i64 c] 25)).alloc (.cells #[.int .i64 k', .int .i64 n', .string s', .bool b', .int .i64 c'] 25)).heap.size ∧ (w.heap.size + 1) < ((w.alloc (.cells #[.int .i64 k, .int .i64 n, .string s, .bool b, .int .i64 c] 25)).alloc (.cells #[.int .i64 k', .int .i64 n', .string s', .bool b', .int .i64 c'] 25)).heap.size ∧ Below w.heap.size w ((w.alloc (.cells #[.int .i64 k, .int .i64 n, .string s, .bool b, .int .i64 c] 25)).alloc (.cells #[.int .i64 k', .int .i64 n', .string s', .bool b', .int .i64 c'] 25)) := by
  obtain ⟨l, a0, a1, a2, a3, a4⟩ := (AtV.at w w.heap.size k n s b c 25 rfl).alloc (.cells #[.int .i64 k', .int .i64 n', .string s', .bool b', .int .i64 c'] 25)
  obtain ⟨m, b0, b1, b2, b3, b4⟩ := AtV.at (w.alloc (.cells #[.int .i64 k, .int .i64 n, .string s, .bool b, .int .i64 c] 25)) (w.heap.size + 1) k' n' s' b' c' 25 (by simp)
  exact ⟨a0, a1, a2, a3, a4, b0, b1, b2, b3, b4, l, m, ((Below.refl w.heap.size w).alloc (Nat.le_refl _) _).alloc (by simp) _⟩

set_option maxHeartbeats 1000000 in
theorem trouble2_any (k n : Int) (s : ByteArray) (b : Bool) (c : Int) (k' n' : Int) (s' : ByteArray) (b' : Bool) (c' : Int) (w : World) (hz : s.size ≤ maxLen) (hz' : s'.size ≤ maxLen) :
    Calls Tryd.prog 40 #[.agg #[.int .i64 k, .int .i64 n, .string s, .bool b, .int .i64 c], .agg #[.int .i64 k', .int .i64 n', .string s', .bool b', .int .i64 c']] w fun e w' => e = .returned (.int .i64 (troubleV2 k n s b c k' n' s' b' c')) ∧ Below w.heap.size w w' := by
  have HR : Hid (∀ W : World, Calls Tryd.prog 38 #[.agg #[.int .i64 k, .int .i64 n, .string s, .bool b, .int .i64 c]] W fun e w' => e = .returned (.bool (rightB k n s b c)) ∧ Below W.heap.size W w') := fun W => right_any k n s b c W hz
  have HQ : Hid (∀ W : World, Calls Tryd.prog 38 #[.agg #[.int .i64 k', .int .i64 n', .string s', .bool b', .int .i64 c']] W fun e w' => e = .returned (.bool (rightB k' n' s' b' c')) ∧ Below W.heap.size W w') := fun W => right_any k' n' s' b' c' W hz'
  clear hz hz'
  have HV : Hid (troubleV2 k n s b c k' n' s' b' c' = if rightB k n s b c && rightB k' n' s' b' c' then (if c = 0 then c' else c) else 2) := rfl
  have HS := hide (Box2.new w k n s b c k' n' s' b' c')
  generalize rightB k n s b c = r at *
  generalize rightB k' n' s' b' c' = r' at *
  cases r
  · go_enter Tryd.func40, Tryd.ntmps40
    go_wp2_with fail
    refine (HR.out _).mono ?_
    rintro e w1 ⟨rfl, hb1⟩
    have HS1 := hide (Box2.below HS.out hb1)
    clear hb1 HS
    go_wp2
    go_ret
    exact ⟨by rw [HV.out]; rfl, Box2.out HS1.out⟩
  · cases r'
    · go_enter Tryd.func40, Tryd.ntmps40
      go_wp2_with fail
      refine (HR.out _).mono ?_
      rintro e w1 ⟨rfl, hb1⟩
      have HS1 := hide (Box2.below HS.out hb1)
      clear hb1 HS
      obtain ⟨a0, a1, a2, a3, a4, b0, b1, b2, b3, b4, l, m, hb⟩ := HS1.out
      go_wp2_with fail
      refine (HQ.out _).mono ?_
      rintro e w2 ⟨rfl, hb2⟩
      have HS2 := hide (Box2.below HS1.out hb2)
      clear hb2 HS1 a0 a1 a2 a3 a4 b0 b1 b2 b3 b4 l m hb
      go_wp2
      go_ret
      exact ⟨by rw [HV.out]; rfl, Box2.out HS2.out⟩
    · by_cases hc : c = 0
      · subst hc
        go_enter Tryd.func40, Tryd.ntmps40
        go_wp2_with fail
        refine (HR.out _).mono ?_
        rintro e w1 ⟨rfl, hb1⟩
        have HS1 := hide (Box2.below HS.out hb1)
        clear hb1 HS
        obtain ⟨a0, a1, a2, a3, a4, b0, b1, b2, b3, b4, l, m, hb⟩ := HS1.out
        go_wp2_with fail
        refine (HQ.out _).mono ?_
        rintro e w2 ⟨rfl, hb2⟩
        have HS2 := hide (Box2.below HS1.out hb2)
        clear hb2 HS1 a0 a1 a2 a3 a4 b0 b1 b2 b3 b4 l m hb
        obtain ⟨a0, a1, a2, a3, a4, b0, b1, b2, b3, b4, l, m, hb⟩ := HS2.out
        go_wp2
        go_ret
        exact ⟨by rw [HV.out]; rfl, hb⟩
      · have t : (c != 0) = true := by simpa using hc
        have HV2 : Hid (troubleV2 k n s b c k' n' s' b' c' = c) := by show _ = _; rw [HV.out]; simp [hc]
        clear HV hc
        go_enter Tryd.func40, Tryd.ntmps40
        go_wp2_with fail
        refine (HR.out _).mono ?_
        rintro e w1 ⟨rfl, hb1⟩
        have HS1 := hide (Box2.below HS.out hb1)
        clear hb1 HS
        obtain ⟨a0, a1, a2, a3, a4, b0, b1, b2, b3, b4, l, m, hb⟩ := HS1.out
        go_wp2_with fail
        refine (HQ.out _).mono ?_
        rintro e w2 ⟨rfl, hb2⟩
        have HS2 := hide (Box2.below HS1.out hb2)
        clear hb2 HS1 a0 a1 a2 a3 a4 b0 b1 b2 b3 b4 l m hb
        obtain ⟨a0, a1, a2, a3, a4, b0, b1, b2, b3, b4, l, m, hb⟩ := HS2.out
        go_wp2
        go_ret
        exact ⟨by rw [HV2.out]; rfl, hb⟩
set_option maxHeartbeats 2000000 in
theorem compareV_any (k n : Int) (s : ByteArray) (b : Bool) (c : Int) (k' n' : Int) (s' : ByteArray) (b' : Bool) (c' : Int) (w : World) (hz : s.size ≤ maxLen) (hz' : s'.size ≤ maxLen) :
    Calls Tryd.prog 18 #[.agg #[.int .i64 k, .int .i64 n, .string s, .bool b, .int .i64 c], .agg #[.int .i64 k', .int .i64 n', .string s', .bool b', .int .i64 c']] w fun e w' => e = .returned (.tuple #[.int .i64 (compareV k n s b c k' n' s' b' c').1, .int .i64 (compareV k n s b c k' n' s' b' c').2]) ∧ Below w.heap.size w w' := by
  have HT : Hid (∀ W : World, Calls Tryd.prog 40 #[.agg #[.int .i64 k, .int .i64 n, .string s, .bool b, .int .i64 c], .agg #[.int .i64 k', .int .i64 n', .string s', .bool b', .int .i64 c']] W fun e w' => e = .returned (.int .i64 (troubleV2 k n s b c k' n' s' b' c')) ∧ Below W.heap.size W w') := fun W => trouble2_any k n s b c k' n' s' b' c' W hz hz'
  clear hz hz'
  have HS := hide (Box2.new w k n s b c k' n' s' b' c')
  by_cases ht : troubleV2 k n s b c k' n' s' b' c' = 0
  · rw [show compareV k n s b c k' n' s' b' c' = (ordV (besK k k') n s b (besK k' k) n' s' b', 0) by simp [compareV, ht]]
    have hr : rightB k n s b c = true ∧ rightB k' n' s' b' c' = true := by
      unfold troubleV2 at ht
      split at ht
      · rename_i h; simpa using h
      · exact absurd ht (by decide)
    rw [ht] at HT
    have HB : Hid (∀ W : World, Calls Tryd.prog 42 #[.agg #[.int .i64 k, .int .i64 n, .string s, .bool b, .int .i64 c], .int .i64 k'] W fun e w' => e = .returned (.agg #[.int .i64 (besK k k'), .int .i64 n, .string s, .bool b, .int .i64 c]) ∧ Below W.heap.size W w') := fun W => beside_any k n s b c k' W hr.1
    have HC : Hid (∀ W : World, Calls Tryd.prog 42 #[.agg #[.int .i64 k', .int .i64 n', .string s', .bool b', .int .i64 c'], .int .i64 k] W fun e w' => e = .returned (.agg #[.int .i64 (besK k' k), .int .i64 n', .string s', .bool b', .int .i64 c']) ∧ Below W.heap.size W w') := fun W => beside_any k' n' s' b' c' k W hr.2
    have HO : Hid (∀ W : World, Calls Tryd.prog 41 #[.agg #[.int .i64 (besK k k'), .int .i64 n, .string s, .bool b, .int .i64 c], .agg #[.int .i64 (besK k' k), .int .i64 n', .string s', .bool b', .int .i64 c']] W fun e w' => e = .returned (.int .i64 (ordV (besK k k') n s b (besK k' k) n' s' b')) ∧ Below W.heap.size W w') := fun W => ordered_any _ n s b c _ n' s' b' c' W
    clear hr ht
    generalize ordV (besK k k') n s b (besK k' k) n' s' b' = X at *
    generalize besK k k' = K at *
    generalize besK k' k = K' at *
    go_enter Tryd.func18, Tryd.ntmps18
    go_wp2_with (go_at_call 40; refine (HT.out _).mono ?_; rintro e w1 ⟨rfl, hb1⟩)
    have HS1 := hide (Box2.below HS.out hb1)
    clear hb1 HS
    go_region_held3 (fun w' => w'.cell? ⟨w.heap.size, 0, none⟩ = some (.int .i64 k) ∧ w'.cell? ⟨w.heap.size, 1, none⟩ = some (.int .i64 n) ∧ w'.cell? ⟨w.heap.size, 2, none⟩ = some (.string s) ∧ w'.cell? ⟨w.heap.size, 3, none⟩ = some (.bool b) ∧ w'.cell? ⟨w.heap.size, 4, none⟩ = some (.int .i64 c) ∧ w'.cell? ⟨w.heap.size + 1, 0, none⟩ = some (.int .i64 k') ∧ w'.cell? ⟨w.heap.size + 1, 1, none⟩ = some (.int .i64 n') ∧ w'.cell? ⟨w.heap.size + 1, 2, none⟩ = some (.string s') ∧ w'.cell? ⟨w.heap.size + 1, 3, none⟩ = some (.bool b') ∧ w'.cell? ⟨w.heap.size + 1, 4, none⟩ = some (.int .i64 c') ∧ w.heap.size < w'.heap.size ∧ w.heap.size + 1 < w'.heap.size ∧ Below w.heap.size w w') (first | exact HS1.out | assumption | exact Box2.drew (by assumption)) (first | (go_at_call_of 42 [Value.agg #[Value.int IntKind.i64 k, Value.int IntKind.i64 n, Value.string s, Value.bool b, Value.int IntKind.i64 c], Value.int IntKind.i64 k']; refine (HB.out _).mono ?_; rintro e w2 ⟨rfl, hb2⟩; have hs2 := Box2.below (by assumption) hb2) | (go_at_call_of 42 [Value.agg #[Value.int IntKind.i64 k', Value.int IntKind.i64 n', Value.string s', Value.bool b', Value.int IntKind.i64 c'], Value.int IntKind.i64 k]; refine (HC.out _).mono ?_; rintro e w2 ⟨rfl, hb2⟩; have hs2 := Box2.below (by assumption) hb2) | (go_at_call 41; refine (HO.out _).mono ?_; rintro e w2 ⟨rfl, hb2⟩; have hs2 := Box2.below (by assumption) hb2))
    all_goals go_wp2
    all_goals go_ret2
    all_goals exact ⟨rfl, Box2.out (by assumption)⟩
  · rw [show compareV k n s b c k' n' s' b' c' = (0, troubleV2 k n s b c k' n' s' b' c') by simp [compareV, ht]]
    have t : (troubleV2 k n s b c k' n' s' b' c' != 0) = true := by simpa using ht
    clear ht
    generalize troubleV2 k n s b c k' n' s' b' c' = X at *
    go_enter Tryd.func18, Tryd.ntmps18
    go_wp2_with (go_at_call 40; refine (HT.out _).mono ?_; rintro e w1 ⟨rfl, hb1⟩)
    have HS1 := hide (Box2.below HS.out hb1)
    go_ret2
    exact ⟨rfl, Box2.out HS1.out⟩
end Go.Proofs.YtaokibkeoomfjaaDoor
