/-
  The walk of TreeWrapped: blanks about a formula, and brackets about the whole, change nothing of what is read.
-/
import Derived.Test.YtiaoaifoecmemaaGreatDoorQ13
namespace Go.Proofs.YtiaoaifoecmemaaGreatDoor
open Go.RowKit

/-- A text in so many brackets. -/
def wrapB (s : ByteArray) : Nat → ByteArray
  | 0 => s
  | n + 1 => ⟨#[32, 40]⟩ ++ wrapB s n ++ ⟨#[32, 41]⟩
theorem wrap_list (s : ByteArray) (n : Nat) : (wrapB s (n + 1)).data.toList = 32 :: 40 :: ((wrapB s n).data.toList ++ [32, 41]) := by
  show ((⟨#[32, 40]⟩ : ByteArray) ++ wrapB s n ++ ⟨#[32, 41]⟩).data.toList = _
  simp
theorem wrap_size (s : ByteArray) : ∀ n, (wrapB s n).size = s.size + 4 * n
  | 0 => rfl
  | n + 1 => by
    have := wrap_size s n
    show ((⟨#[32, 40]⟩ : ByteArray) ++ wrapB s n ++ ⟨#[32, 41]⟩).size = _
    rw [ByteArray.size_append, ByteArray.size_append, this]
    show 2 + _ + 2 = _
    omega
theorem wrap_parse {s : ByteArray} {h : Hd} {k : Fo} (hp : parseN s.data.toList = .ok h k) (n : Nat) (hs : s.size + 4 * n ≤ 1024) : parseN (wrapB s n).data.toList = .ok h k := by
  have hr : Reads (wrapB s n).data.toList h k := by
    clear hs
    induction n with
    | zero => exact reads_of_parse hp
    | succ n ih =>
      rw [wrap_list]
      exact wrap_reads ih
  refine parse_of_reads hr ?_ (parse_fine hp).2.2
  have := wrap_size s n
  have hz : (wrapB s n).data.toList.length = (wrapB s n).size := by simp
  omega
/-- What is kept in the loop. -/
structure Keeps (w : World) (b : Nat) (h : Hd) (v : Value) (k : Fo) (wr : World) : Prop where
  node : NodeAt wr b h v k
  below : Below w.heap.size w wr
set_option maxRecDepth 100000 in
set_option maxHeartbeats 4000000 in
theorem treeWrapped_walk (s : ByteArray) (q : Int) (w : World) (he : Env8 w) (hs : s.size ≤ maxLen) :
    Calls Tryz.prog 7 #[.string s, .int .i64 q] w fun e w' => e = .returned (.bool true) ∧ Below w.heap.size w w' := by
  have HV : Hid (∀ W : World, Env8 W → Calls Tryz.prog 9 #[] W fun e w' => e = .returned (.bool true) ∧ Below W.heap.size W w') := lives8
  have HE := hide he
  by_cases hl : 900 < s.size
  · have hl' : (900 : Int) < (s.size : Int) := by omega
    clear he
    go_enter Tryz.func7, Tryz.ntmps7
    go_wp2_with (first | (go_at_call 9; refine (HV.out _ HE.out).mono ?_; rintro e w1 ⟨rfl, hb1⟩; have HB1 := hide hb1; clear hb1))
    go_ret
    exact ⟨rfl, HB1.out⟩
  have hl' : ¬ (900 : Int) < (s.size : Int) := by omega
  by_cases hq0 : q < 0
  · clear he
    go_enter Tryz.func7, Tryz.ntmps7
    go_wp2_with (first | (go_at_call 9; refine (HV.out _ HE.out).mono ?_; rintro e w1 ⟨rfl, hb1⟩; have HB1 := hide hb1; clear hb1))
    go_ret
    exact ⟨rfl, HB1.out⟩
  by_cases hq1 : 20 < q
  · clear he
    go_enter Tryz.func7, Tryz.ntmps7
    go_wp2_with (first | (go_at_call 9; refine (HV.out _ HE.out).mono ?_; rintro e w1 ⟨rfl, hb1⟩; have HB1 := hide hb1; clear hb1))
    go_ret
    exact ⟨rfl, HB1.out⟩
  obtain ⟨K, rfl⟩ : ∃ K : Nat, q = (K : Int) := ⟨q.toNat, by omega⟩
  have hK : K ≤ 20 := by omega
  have hwz := fun n => wrap_size s n
  have hmz : ∀ n, n ≤ 20 → (wrapB s n).size ≤ maxLen := fun n hn => by
    have : (1024 : Nat) ≤ maxLen := by decide
    rw [hwz]; omega
  cases hp : parseN s.data.toList with
  | no x y =>
    have hy := parse_err hp
    have HP := hide (parsed_no s w he hs x y hp)
    have hyb : (y == 0) = false := by rw [beq_eq_false_iff_ne]; exact hy
    have hsec : ∃ z : Int, (K = 0 → z ≠ 0) ∧ ∀ W : World, Env8 W → Calls Tryz.prog 10 #[.string (wrapB s K)] W fun e w' => ∃ h a n cap u, e = .returned (.tuple #[nodeV h (.slice a n cap), .int .i64 u, .int .i64 z]) ∧ Below W.heap.size W (w'.alloc (.cells (hdC h (.slice a n cap)).toArray 34)) := by
      cases hp2 : parseN (wrapB s K).data.toList with
      | no x2 y2 =>
        refine ⟨y2, fun _ => parse_err hp2, fun W hW => (parsed_no _ W hW (hmz K hK) x2 y2 hp2).mono ?_⟩
        rintro e w' ⟨rfl, _, hb⟩
        exact ⟨zh, none, 0, 0, x2, rfl, hb⟩
      | ok h2 k2 =>
        refine ⟨0, fun e => ?_, fun W hW => (parsed_ok _ W hW (hmz K hK) h2 k2 hp2).mono ?_⟩
        · subst e
          rw [show wrapB s 0 = s from rfl, hp] at hp2
          cases hp2
        · rintro e w' ⟨a, n, cap, rfl, _, hb⟩
          exact ⟨h2, a, n, cap, 0, rfl, hb⟩
    obtain ⟨z, hz0, hp2⟩ := hsec
    have HP2 := hide hp2
    have HZ := hide hz0
    clear he hp hp2 hz0 hmz hs
    go_enter Tryz.func7, Tryz.ntmps7
    go_wp2_with (first | (go_at_call 10; refine HP.out.mono ?_; rintro e w1 ⟨rfl, _, hb1⟩; have HB1 := hide hb1; clear hb1) | (with_reducible refine wpl_id ?_; refine wpl_newN rfl _ _ rfl rfl rfl rfl ?_))
    go_loopw [8, 9] (fun ut ui wr => ∃ i : Nat, ut = .string (wrapB s i) ∧ ui = .int .i64 (i : Int) ∧ i ≤ K ∧ Below w.heap.size w wr) (fun _ ui _ => K - (intOf ui).toNat)
    case atStart => exact ⟨0, rfl, rfl, by omega, HB1.out⟩
    case round =>
      obtain ⟨i, rfl, rfl, hi, hB⟩ := hrel
      have HB := hide hB
      clear hB
      by_cases hlt : i < K
      · have hlt' : (i : Int) < (K : Int) := by omega
        have g1 : ¬ 9223372036854775807 < 2 + (wrapB s i).size := by rw [hwz]; omega
        have g2 : ¬ 9223372036854775807 < 2 + (wrapB s i).size + 2 := by rw [hwz]; omega
        go_wp2
        go_roundw
        case rel => exact ⟨i + 1, rfl, by go_num, by omega, HB.out⟩
        case measure => simp [intOf]; omega
      · have hlt' : ¬ (i : Int) < (K : Int) := by omega
        obtain rfl : i = K := by omega
        by_cases h0 : i = 0
        · have hz1 : (z == 0) = false := by rw [beq_eq_false_iff_ne]; exact HZ.out h0
          have hz2 : ¬ z = 0 := HZ.out h0
          subst h0
          go_wp2_with (first | (go_at_call 10; refine (HP2.out _ (HE.out.below HB.out)).mono ?_; rintro e w2 ⟨h2, a2, n2, c2, u2, rfl, hb2⟩; have HB2 := hide (bar_below HB.out (Bar.of hb2)); clear hb2) | (with_reducible refine wpl_id ?_; refine wpl_newN rfl _ _ rfl rfl rfl rfl ?_) | (go_at_call 9; refine (HV.out _ (HE.out.below HB2.out)).mono ?_; rintro e w3 ⟨rfl, hb3⟩; have HB3 := hide (bar_below HB2.out (Bar.of hb3)); clear hb3))
          go_ret
          exact ⟨by simp [hz2], HB3.out⟩
        · have h0' : ((i : Int) == 0) = false := by rw [beq_eq_false_iff_ne]; omega
          cases hz1 : (z == 0) with
          | false =>
            go_wp2_with (first | (go_at_call 10; refine (HP2.out _ (HE.out.below HB.out)).mono ?_; rintro e w2 ⟨h2, a2, n2, c2, u2, rfl, hb2⟩; have HB2 := hide (bar_below HB.out (Bar.of hb2)); clear hb2) | (with_reducible refine wpl_id ?_; refine wpl_newN rfl _ _ rfl rfl rfl rfl ?_) | (go_at_call 9; refine (HV.out _ (HE.out.below HB2.out)).mono ?_; rintro e w3 ⟨rfl, hb3⟩; have HB3 := hide (bar_below HB2.out (Bar.of hb3)); clear hb3))
            go_ret
            exact ⟨rfl, HB3.out⟩
          | true =>
            go_wp2_with (first | (go_at_call 10; refine (HP2.out _ (HE.out.below HB.out)).mono ?_; rintro e w2 ⟨h2, a2, n2, c2, u2, rfl, hb2⟩; have HB2 := hide (bar_below HB.out (Bar.of hb2)); clear hb2) | (with_reducible refine wpl_id ?_; refine wpl_newN rfl _ _ rfl rfl rfl rfl ?_) | (go_at_call 9; refine (HV.out _ (HE.out.below HB2.out)).mono ?_; rintro e w3 ⟨rfl, hb3⟩; have HB3 := hide (bar_below HB2.out (Bar.of hb3)); clear hb3))
            go_ret
            exact ⟨rfl, HB3.out⟩
  | ok h k =>
    have HP := hide (parsed_ok s w he hs h k hp)
    have HP2 : Hid (∀ W : World, Env8 W → Calls Tryz.prog 10 #[.string (wrapB s K)] W fun e w' => ∃ a n cap, e = .returned (.tuple #[nodeV h (.slice a n cap), .int .i64 0, .int .i64 0]) ∧ NodeAt (w'.alloc (.cells (hdC h (.slice a n cap)).toArray 34)) w'.heap.size h (.slice a n cap) k ∧ Below W.heap.size W (w'.alloc (.cells (hdC h (.slice a n cap)).toArray 34))) := fun W hW => parsed_ok _ W hW (hmz K hK) h k (wrap_parse hp K (by omega))
    have HS : Hid (∀ (W : World) (v v2 : Value), Kv W (fun c => c < W.heap.size) v k → Kv W (fun c => c < W.heap.size) v2 k → Calls Tryz.prog 12 #[.agg (hdC h v).toArray, .agg (hdC h v2).toArray] W fun e w' => e = .returned (.bool true) ∧ Below W.heap.size W w') := fun W v v2 h1 h2 => same_any k _ _ h v v2 W (fun _ h => h) (fun _ h => h) h1 h2
    clear he hp hmz hs
    go_enter Tryz.func7, Tryz.ntmps7
    go_wp2_with (first | (go_at_call 10; refine HP.out.mono ?_; rintro e w1 ⟨a1, n1, c1, rfl, hn1, hb1⟩; have HK1 : Hid (Keeps w w1.heap.size h (.slice a1 n1 c1) k (w1.alloc (.cells (hdC h (.slice a1 n1 c1)).toArray 34))) := ⟨hn1, hb1⟩; clear hn1 hb1) | (with_reducible refine wpl_id ?_; refine wpl_newN rfl _ _ rfl rfl rfl rfl ?_))
    go_loopw [8, 9] (fun ut ui wr => ∃ i : Nat, ut = .string (wrapB s i) ∧ ui = .int .i64 (i : Int) ∧ i ≤ K ∧ Keeps w w1.heap.size h (.slice a1 n1 c1) k wr) (fun _ ui _ => K - (intOf ui).toNat)
    case atStart => exact ⟨0, rfl, rfl, by omega, HK1.out⟩
    case round =>
      obtain ⟨i, rfl, rfl, hi, hB⟩ := hrel
      have HB := hide hB
      clear hB HK1
      by_cases hlt : i < K
      · have hlt' : (i : Int) < (K : Int) := by omega
        have g1 : ¬ 9223372036854775807 < 2 + (wrapB s i).size := by rw [hwz]; omega
        have g2 : ¬ 9223372036854775807 < 2 + (wrapB s i).size + 2 := by rw [hwz]; omega
        go_wp2
        go_roundw
        case rel => exact ⟨i + 1, rfl, by go_num, by omega, HB.out⟩
        case measure => simp [intOf]; omega
      · have hlt' : ¬ (i : Int) < (K : Int) := by omega
        obtain rfl : i = K := by omega
        go_wp2_with (first | (go_at_call 10; refine (HP2.out _ (HE.out.below HB.out.below)).mono ?_; rintro e w2 ⟨a2, n2, c2, rfl, hn2, hb2⟩; have HM2 := hide hn2; have HY2 := hide hn2.1; have HN2 := hide (HB.out.node.below hb2); have HX2 := hide HN2.out.1; have HB2 := hide (bar_below HB.out.below (Bar.of hb2)); clear hn2 hb2) | (with_reducible refine wpl_id ?_; refine wpl_newN rfl _ _ rfl rfl rfl rfl ?_) | (with_reducible refine wpl_id ?_; refine wpl_loadW rfl _ rfl _ rfl (by first | exact HX2.out | exact HY2.out) ?_) | (go_at_call 12; refine (HS.out _ _ _ HN2.out.2 HM2.out.2).mono ?_; rintro e w5 ⟨rfl, hb5⟩; have HB5 := hide (bar_below HB2.out (Bar.of hb5)); clear hb5) | (go_at_call 9; refine (HV.out _ (HE.out.below HB5.out)).mono ?_; rintro e w6 ⟨rfl, hb6⟩; have HB6 := hide (bar_below HB5.out (Bar.of hb6)); clear hb6))
        go_ret
        exact ⟨rfl, HB6.out⟩
end Go.Proofs.YtiaoaifoecmemaaGreatDoor
