/-
  LexParts: what two texts tell, each by itself, is told of both with a blank between, and with blanks about.
-/
import Derived.Test.YtmmdflkjlhckhaaGreatDoorLxM4
import Derived.Test.YtmmdflkjlhckhaaGreatDoorLxApp
namespace Go.Proofs.YtmmdflkjlhckhaaGreatDoor
open Go.RowKit Go.Shelf

theorem row_empty' {n₀ : Nat} {w : World} {v : Value} (h : RowT n₀ w v []) : ∃ p cap, v = .slice p 0 cap := by
  unfold RowT at h
  rcases h.2 with ⟨h, _⟩ | ⟨g, cap, cur, h1, _⟩
  · exact ⟨_, _, h⟩
  · exact ⟨_, _, h1⟩
/-- The last part: both are told. -/
theorem parts_str (s t : ByteArray) : (⟨#[32, 32]⟩ ++ s ++ ⟨#[32]⟩ ++ t ++ ⟨#[32, 32, 32]⟩ : ByteArray).data.toList = 32 :: 32 :: (s.data.toList ++ 32 :: (t.data.toList ++ 32 :: [32, 32])) := by simp
set_option maxRecDepth 100000 in
set_option maxHeartbeats 4000000 in
theorem parts_both (s t : ByteArray) (w : World) (he : EnvL w) (hs : s.size ≤ 400) (ht : t.size ≤ 400) (h1 : (scanR s.data.toList).2.2 = 0) (h2 : (scanR t.data.toList).2.2 = 0) :
    Calls Tryz.prog 5 #[.string s, .string t] w fun e w' => e = .returned (.bool true) ∧ Below w.heap.size w w' := by
  have HV : Hid (∀ W : World, EnvL W → Calls Tryz.prog 11 #[] W fun e w' => e = .returned (.bool true) ∧ Below W.heap.size W w') := fun W hW => lives_any W hW
  have hsl : s.data.toList.length = s.size := by simp
  have htl : t.data.toList.length = t.size := by simp
  obtain ⟨p1, p2⟩ := scan_parts (by omega) (by omega) h1 h2
  have HA : Hid (∀ W : World, EnvL W → Calls Tryz.prog 8 #[.string s] W fun e w' => ∃ v, e = .returned (.tuple #[v, .int .i64 (scanR s.data.toList).2.1, .int .i64 0]) ∧ RowT W.heap.size w' v (scanR s.data.toList).1 ∧ Below W.heap.size W w') := fun W hW => by
    have := scan_any s W hW (by unfold maxLen; omega)
    rw [h1] at this
    exact this
  have HB : Hid (∀ W : World, EnvL W → Calls Tryz.prog 8 #[.string t] W fun e w' => ∃ v, e = .returned (.tuple #[v, .int .i64 (scanR t.data.toList).2.1, .int .i64 0]) ∧ RowT W.heap.size w' v (scanR t.data.toList).1 ∧ Below W.heap.size W w') := fun W hW => by
    have := scan_any t W hW (by unfold maxLen; omega)
    rw [h2] at this
    exact this
  have HC : Hid (∀ W : World, EnvL W → Calls Tryz.prog 8 #[.string (⟨#[32, 32]⟩ ++ s ++ ⟨#[32]⟩ ++ t ++ ⟨#[32, 32, 32]⟩)] W fun e w' => ∃ v, e = .returned (.tuple #[v, .int .i64 (scanR (32 :: 32 :: (s.data.toList ++ 32 :: (t.data.toList ++ 32 :: [32, 32])))).2.1, .int .i64 0]) ∧ RowT W.heap.size w' v (scanR (32 :: 32 :: (s.data.toList ++ 32 :: (t.data.toList ++ 32 :: [32, 32])))).1 ∧ Below W.heap.size W w') := fun W hW => by
    have := scan_any (⟨#[32, 32]⟩ ++ s ++ ⟨#[32]⟩ ++ t ++ ⟨#[32, 32, 32]⟩) W hW (by
      rw [ByteArray.size_append, ByteArray.size_append, ByteArray.size_append, ByteArray.size_append]
      show 2 + s.size + 1 + t.size + 3 ≤ _
      unfold maxLen; omega)
    rw [parts_str, p1] at this
    exact this
  have la : (scanR s.data.toList).1.length ≤ 2000 := by
    rw [(scan_zero h1).2.2]; have := all_len s.data.toList; rw [List.length_map]; omega
  have lb : (scanR t.data.toList).1.length ≤ 2000 := by
    rw [(scan_zero h2).2.2]; have := all_len t.data.toList; rw [List.length_map]; omega
  have lc : (scanR (32 :: 32 :: (s.data.toList ++ 32 :: (t.data.toList ++ 32 :: [32, 32])))).1.length ≤ 2000 := by
    have h3 := scan_zero p1
    rw [h3.2.2, List.length_map]; have := all_len (32 :: 32 :: (s.data.toList ++ 32 :: (t.data.toList ++ 32 :: [32, 32]))); have := h3.1; omega
  generalize (scanR (32 :: 32 :: (s.data.toList ++ 32 :: (t.data.toList ++ 32 :: [32, 32])))).2.1 = zc at *
  generalize (scanR (32 :: 32 :: (s.data.toList ++ 32 :: (t.data.toList ++ 32 :: [32, 32])))).1 = tc at *
  generalize (scanR s.data.toList).2.1 = za at *
  generalize (scanR s.data.toList).1 = ta at *
  generalize (scanR t.data.toList).2.1 = zb at *
  generalize (scanR t.data.toList).1 = tb at *
  have HE := hide he
  have HP2 := hide p2
  have n1 : ¬ 9223372036854775807 < 2 + s.size := by omega
  have n2 : ¬ 9223372036854775807 < 2 + s.size + 1 := by omega
  have n3 : ¬ 9223372036854775807 < 2 + s.size + 1 + t.size := by omega
  have n4 : ¬ 9223372036854775807 < 2 + s.size + 1 + t.size + 3 := by omega
  have g1 : ¬ (400 : Int) < s.size := by omega
  have g2 : ¬ (400 : Int) < t.size := by omega
  clear he p1 p2 h1 h2 hsl htl
  go_enter Tryz.func5, Tryz.ntmps5
  go_wp2_with fail
  refine (HA.out _ HE.out).mono ?_
  rintro e w1 ⟨va, rfl, ra, hb1⟩
  go_wp2_with fail
  refine (HB.out _ (HE.out.below hb1)).mono ?_
  rintro e w2 ⟨vb, rfl, rb, hb2⟩
  have hB2 : Below w.heap.size w w2 := hb1.trans (hb2.mono hb1.size)
  go_wp2_with fail
  refine (HC.out _ (HE.out.below hB2)).mono ?_
  rintro e w3 ⟨vc, rfl, rc, hb3⟩
  have hB3 : Below w.heap.size w w3 := hB2.trans (hb3.mono hB2.size)
  have ra3 := (ra.below (hb2.trans (hb3.mono hb2.size))).rd
  have rb3 := (rb.below hb3).rd
  have HRA := hide ra3
  have HRB := hide rb3
  have HRC := hide rc.rd
  clear ra rb rc ra3 rb3
  go_wp2_with fail
  refine (bare_any _ _ _ HRC.out lc).mono ?_
  rintro e w4 ⟨v4, rfl, r4, hb4⟩
  have HRA4 := hide (HRA.out.below hb4)
  have HRB4 := hide (HRB.out.below hb4)
  have HR4 := hide r4
  clear r4
  have hB4 : Below w.heap.size w w4 := hB3.trans (hb4.mono hB3.size)
  go_wp2_with fail
  refine (bare_any _ _ _ HRA4.out la).mono ?_
  rintro e w5 ⟨v5, rfl, r5, hb5⟩
  have HRB5 := hide (HRB4.out.below hb5)
  have HR5 := hide r5
  clear r5
  have hB5 : Below w.heap.size w w5 := hB4.trans (hb5.mono hB4.size)
  go_wp2_with fail
  refine (bare_any _ _ _ HRB5.out lb).mono ?_
  rintro e w6 ⟨v6, rfl, r6, hb6⟩
  have hB6 : Below w.heap.size w w6 := hB5.trans (hb6.mono hB5.size)
  have l5 : (bareT ta).length ≤ 2000 := by unfold bareT; rw [List.length_map, List.length_take]; omega
  have l6 : (bareT tb).length ≤ 2000 := by unfold bareT; rw [List.length_map, List.length_take]; omega
  obtain ⟨v7, w7, hr7, r7, hb7⟩ := append_rows (HR5.out.below hb6) r6 (by omega) (by have := hb5.size; have := hb6.size; omega)
  have hB7 : Below w.heap.size w w7 := hB6.trans (hb7.mono hB4.size)
  have R4 : Rd w7 v4 (bareT tc) := HR4.out.rd.below ((hb5.trans (hb6.mono hb5.size)).trans hb7)
  have HR7 := hide r7.rd
  have HRR := hide R4
  rw [HP2.out] at HRR
  have HR8 := hide r7
  have HR7' := hide hr7
  clear R4 r7 r6 hr7
  go_wp2_with (at_builtin; refine wpList_append_run (by kernel_rfl) _ _ 22 rfl rfl rfl HR7'.out ?_)
  refine (same_any _ _ _ _ HRR.out HR7.out).mono ?_
  rintro e w8 ⟨rfl, hb8⟩
  have hB8 : Below w.heap.size w w8 := hB7.trans (hb8.mono hB7.size)
  go_wp2_with (go_at_call 11; refine (HV.out _ (HE.out.below hB8)).mono ?_; rintro e wl ⟨rfl, hbl⟩)
  go_ret
  exact ⟨rfl, hB8.trans (hbl.mono hB8.size)⟩
set_option maxRecDepth 100000 in
set_option maxHeartbeats 4000000 in
theorem parts_long (s t : ByteArray) (w : World) (he : EnvL w) (hs : s.size ≤ maxLen) (ht : t.size ≤ maxLen) (h : 400 < s.size ∨ 400 < t.size) :
    Calls Tryz.prog 5 #[.string s, .string t] w fun e w' => e = .returned (.bool true) ∧ Below w.heap.size w w' := by
  have HV : Hid (∀ W : World, EnvL W → Calls Tryz.prog 11 #[] W fun e w' => e = .returned (.bool true) ∧ Below W.heap.size W w') := fun W hW => lives_any W hW
  have HE := hide he
  unfold maxLen at hs ht
  clear he
  by_cases h1 : 400 < s.size
  · have g1 : (400 : Int) < s.size := by omega
    clear h h1
    go_enter Tryz.func5, Tryz.ntmps5
    go_wp2_with (go_at_call 11; refine (HV.out _ HE.out).mono ?_; rintro e wl ⟨rfl, hbl⟩)
    go_ret
    exact ⟨rfl, hbl⟩
  · have g1 : ¬ (400 : Int) < s.size := by omega
    have g2 : (400 : Int) < t.size := by omega
    clear h h1
    go_enter Tryz.func5, Tryz.ntmps5
    go_wp2_with (go_at_call 11; refine (HV.out _ HE.out).mono ?_; rintro e wl ⟨rfl, hbl⟩)
    go_ret
    exact ⟨rfl, hbl⟩
set_option maxRecDepth 100000 in
set_option maxHeartbeats 4000000 in
theorem parts_bad (s t : ByteArray) (w : World) (he : EnvL w) (hs : s.size ≤ 400) (ht : t.size ≤ 400) (h : (scanR s.data.toList).2.2 ≠ 0 ∨ (scanR t.data.toList).2.2 ≠ 0) :
    Calls Tryz.prog 5 #[.string s, .string t] w fun e w' => e = .returned (.bool true) ∧ Below w.heap.size w w' := by
  have HV : Hid (∀ W : World, EnvL W → Calls Tryz.prog 11 #[] W fun e w' => e = .returned (.bool true) ∧ Below W.heap.size W w') := fun W hW => lives_any W hW
  have HA : Hid (∀ W : World, EnvL W → Calls Tryz.prog 8 #[.string s] W fun e w' => ∃ v, e = .returned (.tuple #[v, .int .i64 (scanR s.data.toList).2.1, .int .i64 (scanR s.data.toList).2.2]) ∧ ((scanR s.data.toList).2.2 ≠ 0 → ∃ p c, v = .slice p 0 c) ∧ Below W.heap.size W w') := fun W hW => (scan_any s W hW (by unfold maxLen; omega)).mono (by
    rintro e w' ⟨v, rfl, hr, hb⟩
    exact ⟨v, rfl, fun h => by rw [scan_bad h] at hr; exact row_empty' hr, hb⟩)
  have HB : Hid (∀ W : World, EnvL W → Calls Tryz.prog 8 #[.string t] W fun e w' => ∃ v, e = .returned (.tuple #[v, .int .i64 (scanR t.data.toList).2.1, .int .i64 (scanR t.data.toList).2.2]) ∧ ((scanR t.data.toList).2.2 ≠ 0 → ∃ p c, v = .slice p 0 c) ∧ Below W.heap.size W w') := fun W hW => (scan_any t W hW (by unfold maxLen; omega)).mono (by
    rintro e w' ⟨v, rfl, hr, hb⟩
    exact ⟨v, rfl, fun h => by rw [scan_bad h] at hr; exact row_empty' hr, hb⟩)
  generalize (scanR s.data.toList).2.1 = za at *
  generalize (scanR s.data.toList).2.2 = ea at *
  generalize (scanR t.data.toList).2.1 = zb at *
  generalize (scanR t.data.toList).2.2 = eb at *
  have g1 : ¬ (400 : Int) < s.size := by omega
  have g2 : ¬ (400 : Int) < t.size := by omega
  have HE := hide he
  clear he
  by_cases h1 : ea = 0
  · subst h1
    have h2 : eb ≠ 0 := by simpa using h
    have e2 : (eb == 0) = false := by simpa using h2
    have HH := hide h2
    clear h h2
    go_enter Tryz.func5, Tryz.ntmps5
    go_wp2_with fail
    refine (HA.out _ HE.out).mono ?_
    rintro e w1 ⟨va, rfl, _, hb1⟩
    go_wp2_with fail
    refine (HB.out _ (HE.out.below hb1)).mono ?_
    rintro e w2 ⟨vb, rfl, hv, hb2⟩
    obtain ⟨p, c, rfl⟩ := hv HH.out
    have hB2 : Below w.heap.size w w2 := hb1.trans (hb2.mono hb1.size)
    go_wp2_with (go_at_call 11; refine (HV.out _ (HE.out.below hB2)).mono ?_; rintro e wl ⟨rfl, hbl⟩)
    go_ret
    exact ⟨rfl, hB2.trans (hbl.mono hB2.size)⟩
  · have e1 : (ea == 0) = false := by simpa using h1
    have HH1 := hide h1
    clear h h1
    by_cases h2 : eb = 0
    · subst h2
      go_enter Tryz.func5, Tryz.ntmps5
      go_wp2_with fail
      refine (HA.out _ HE.out).mono ?_
      rintro e w1 ⟨va, rfl, hv, hb1⟩
      obtain ⟨p, c, rfl⟩ := hv HH1.out
      go_wp2_with fail
      refine (HB.out _ (HE.out.below hb1)).mono ?_
      rintro e w2 ⟨vb, rfl, _, hb2⟩
      have hB2 : Below w.heap.size w w2 := hb1.trans (hb2.mono hb1.size)
      go_wp2_with (go_at_call 11; refine (HV.out _ (HE.out.below hB2)).mono ?_; rintro e wl ⟨rfl, hbl⟩)
      go_ret
      exact ⟨rfl, hB2.trans (hbl.mono hB2.size)⟩
    · have e2 : (eb == 0) = false := by simpa using h2
      have HH2 := hide h2
      clear h2
      go_enter Tryz.func5, Tryz.ntmps5
      go_wp2_with fail
      refine (HA.out _ HE.out).mono ?_
      rintro e w1 ⟨va, rfl, hv, hb1⟩
      obtain ⟨p, c, rfl⟩ := hv HH1.out
      go_wp2_with fail
      refine (HB.out _ (HE.out.below hb1)).mono ?_
      rintro e w2 ⟨vb, rfl, hv2, hb2⟩
      obtain ⟨p', c', rfl⟩ := hv2 HH2.out
      have hB2 : Below w.heap.size w w2 := hb1.trans (hb2.mono hb1.size)
      go_wp2_with (go_at_call 11; refine (HV.out _ (HE.out.below hB2)).mono ?_; rintro e wl ⟨rfl, hbl⟩)
      go_ret
      exact ⟨rfl, hB2.trans (hbl.mono hB2.size)⟩
theorem lexParts_walk (s t : ByteArray) (w : World) (he : EnvL w) (hs : s.size ≤ maxLen) (ht : t.size ≤ maxLen) :
    Calls Tryz.prog 5 #[.string s, .string t] w fun e w' => e = .returned (.bool true) ∧ Below w.heap.size w w' := by
  by_cases h : 400 < s.size ∨ 400 < t.size
  · exact parts_long s t w he hs ht h
  · by_cases h1 : (scanR s.data.toList).2.2 = 0
    · by_cases h2 : (scanR t.data.toList).2.2 = 0
      · exact parts_both s t w he (by omega) (by omega) h1 h2
      · exact parts_bad s t w he (by omega) (by omega) (Or.inr h2)
    · exact parts_bad s t w he (by omega) (by omega) (Or.inl h1)
end Go.Proofs.YtmmdflkjlhckhaaGreatDoor
