/-
  What the statements' lives reckons, and its contract.
-/
import Derived.Test.YtklldmidcmfbdaaGreatDoorFmM2
import Derived.Test.YtklldmidcmfbdaaGreatDoorFmK
import Derived.Test.YtklldmidcmfbdaaGreatDoorFmU
import Derived.Test.YtklldmidcmfbdaaGreatDoorFmO
namespace Go.Proofs.YtklldmidcmfbdaaGreatDoor
open Go.RowKit Go.Shelf

/-- A node's texts are short, its parts few. -/
def shortB : Fo → Bool
  | .nil => true
  | .cons h k r => (decide (h.vs.length ≤ 1000) && decide (h.txt.length ≤ 1000)) && (shortB k && shortB r)
theorem shortB_ok : ∀ F : Fo, shortB F = true → okF F
  | .nil, _ => trivial
  | .cons h k r, e => by
    simp only [shortB, Bool.and_eq_true, decide_eq_true_eq] at e
    have hm : 1000 ≤ maxLen := by decide
    exact ⟨⟨by omega, by omega⟩, shortB_ok k e.2.1, shortB_ok r e.2.2⟩
def smallB (h : Hd) (k : Fo) : Bool := decide (k.many + 1 ≤ 4096) && shortB (.cons h k .nil)
theorem of_small {h : Hd} {k : Fo} (e : smallB h k = true) : k.many + 1 ≤ 4096 ∧ h.vs.length ≤ maxLen ∧ h.txt.length ≤ maxLen ∧ okF k := by
  simp only [smallB, Bool.and_eq_true, decide_eq_true_eq] at e
  obtain ⟨⟨h1, h2⟩, h3, _⟩ := shortB_ok _ e.2
  exact ⟨e.1, h1, h2, h3⟩
def hOf : Pr → Hd
  | .ok h _ => h
  | .no _ _ => zh
def kOf : Pr → Fo
  | .ok _ k => k
  | .no _ _ => .nil
theorem lv_a : ∃ h k, parseN [65, 49, 43, 83, 85, 77, 40, 66, 50, 58, 65, 49, 41, 42, 65, 49] = .ok h k ∧ smallB h k = true ∧ checkN h k = 0 ∧ rectsN h k = [(1, 1, 1, 1), (1, 1, 2, 2)] := ⟨hOf (parseN [65, 49, 43, 83, 85, 77, 40, 66, 50, 58, 65, 49, 41, 42, 65, 49]), kOf (parseN [65, 49, 43, 83, 85, 77, 40, 66, 50, 58, 65, 49, 41, 42, 65, 49]), by kernel_rfl, by kernel_rfl, by kernel_rfl, by kernel_rfl⟩
theorem lv_b : ∃ h k, parseN [83, 85, 77, 40, 65, 49, 44, 50, 41] = .ok h k ∧ smallB h k = true ∧ formsE h k = 0 := ⟨hOf (parseN [83, 85, 77, 40, 65, 49, 44, 50, 41]), kOf (parseN [83, 85, 77, 40, 65, 49, 44, 50, 41]), by kernel_rfl, by kernel_rfl, by kernel_rfl⟩
theorem lv_c : ∃ h k, parseN [83, 85, 77, 40, 41] = .ok h k ∧ smallB h k = true ∧ formsE h k = 10 := ⟨hOf (parseN [83, 85, 77, 40, 41]), kOf (parseN [83, 85, 77, 40, 41]), by kernel_rfl, by kernel_rfl, by kernel_rfl⟩
theorem lv_d : ∃ h k, parseN [70, 79, 79, 40, 49, 41] = .ok h k ∧ smallB h k = true ∧ formsE h k = 8 := ⟨hOf (parseN [70, 79, 79, 40, 49, 41]), kOf (parseN [70, 79, 79, 40, 49, 41]), by kernel_rfl, by kernel_rfl, by kernel_rfl⟩
theorem lv_e : ∃ h k, parseN [86, 76, 79, 79, 75, 85, 80, 40, 49, 44, 50, 44, 51, 41] = .ok h k ∧ smallB h k = true ∧ formsE h k = 2 := ⟨hOf (parseN [86, 76, 79, 79, 75, 85, 80, 40, 49, 44, 50, 44, 51, 41]), kOf (parseN [86, 76, 79, 79, 75, 85, 80, 40, 49, 44, 50, 44, 51, 41]), by kernel_rfl, by kernel_rfl, by kernel_rfl⟩
theorem lv_f : ∃ h k, parseN [49, 43, 83, 85, 77, 40, 50, 41] = .ok h k ∧ smallB h k = true ∧ usesN ⟨#[83, 85, 77]⟩ h k = true := ⟨hOf (parseN [49, 43, 83, 85, 77, 40, 50, 41]), kOf (parseN [49, 43, 83, 85, 77, 40, 50, 41]), by kernel_rfl, by kernel_rfl, by kernel_rfl⟩
set_option maxRecDepth 100000 in
set_option maxHeartbeats 4000000 in
theorem lives9_any (w : World) : Calls Tryz.prog 8 #[] w fun e w' => e = .returned (.bool true) ∧ Below w.heap.size w w' := by
  obtain ⟨h1, k1, p1, b1, q1, r1⟩ := lv_a
  obtain ⟨m1, v1, t1, o1⟩ := of_small b1
  have HO1 : Hid (∀ W : World, Calls Tryz.prog 19 #[.string ⟨#[65, 49, 43, 83, 85, 77, 40, 66, 50, 58, 65, 49, 41, 42, 65, 49]⟩] W fun e w' => ∃ a n cap, e = .returned (.agg (hdC h1 (.slice a n cap)).toArray) ∧ Kv w' (New W w') (.slice a n cap) k1 ∧ Below W.heap.size W w') := fun W => of_any ⟨#[65, 49, 43, 83, 85, 77, 40, 66, 50, 58, 65, 49, 41, 42, 65, 49]⟩ W (by decide) h1 k1 p1
  obtain ⟨h2, k2, p2, b2, q2⟩ := lv_b
  obtain ⟨m2, v2, t2, o2⟩ := of_small b2
  have HO2 : Hid (∀ W : World, Calls Tryz.prog 19 #[.string ⟨#[83, 85, 77, 40, 65, 49, 44, 50, 41]⟩] W fun e w' => ∃ a n cap, e = .returned (.agg (hdC h2 (.slice a n cap)).toArray) ∧ Kv w' (New W w') (.slice a n cap) k2 ∧ Below W.heap.size W w') := fun W => of_any ⟨#[83, 85, 77, 40, 65, 49, 44, 50, 41]⟩ W (by decide) h2 k2 p2
  obtain ⟨h3, k3, p3, b3, q3⟩ := lv_c
  obtain ⟨m3, v3, t3, o3⟩ := of_small b3
  have HO3 : Hid (∀ W : World, Calls Tryz.prog 19 #[.string ⟨#[83, 85, 77, 40, 41]⟩] W fun e w' => ∃ a n cap, e = .returned (.agg (hdC h3 (.slice a n cap)).toArray) ∧ Kv w' (New W w') (.slice a n cap) k3 ∧ Below W.heap.size W w') := fun W => of_any ⟨#[83, 85, 77, 40, 41]⟩ W (by decide) h3 k3 p3
  obtain ⟨h4, k4, p4, b4, q4⟩ := lv_d
  obtain ⟨m4, v4, t4, o4⟩ := of_small b4
  have HO4 : Hid (∀ W : World, Calls Tryz.prog 19 #[.string ⟨#[70, 79, 79, 40, 49, 41]⟩] W fun e w' => ∃ a n cap, e = .returned (.agg (hdC h4 (.slice a n cap)).toArray) ∧ Kv w' (New W w') (.slice a n cap) k4 ∧ Below W.heap.size W w') := fun W => of_any ⟨#[70, 79, 79, 40, 49, 41]⟩ W (by decide) h4 k4 p4
  obtain ⟨h5, k5, p5, b5, q5⟩ := lv_e
  obtain ⟨m5, v5, t5, o5⟩ := of_small b5
  have HO5 : Hid (∀ W : World, Calls Tryz.prog 19 #[.string ⟨#[86, 76, 79, 79, 75, 85, 80, 40, 49, 44, 50, 44, 51, 41]⟩] W fun e w' => ∃ a n cap, e = .returned (.agg (hdC h5 (.slice a n cap)).toArray) ∧ Kv w' (New W w') (.slice a n cap) k5 ∧ Below W.heap.size W w') := fun W => of_any ⟨#[86, 76, 79, 79, 75, 85, 80, 40, 49, 44, 50, 44, 51, 41]⟩ W (by decide) h5 k5 p5
  obtain ⟨h6, k6, p6, b6, q6⟩ := lv_f
  obtain ⟨m6, v6, t6, o6⟩ := of_small b6
  have HO6 : Hid (∀ W : World, Calls Tryz.prog 19 #[.string ⟨#[49, 43, 83, 85, 77, 40, 50, 41]⟩] W fun e w' => ∃ a n cap, e = .returned (.agg (hdC h6 (.slice a n cap)).toArray) ∧ Kv w' (New W w') (.slice a n cap) k6 ∧ Below W.heap.size W w') := fun W => of_any ⟨#[49, 43, 83, 85, 77, 40, 50, 41]⟩ W (by decide) h6 k6 p6
  have HR : Hid (∀ (W w' : World) (a : Option Addr) (n cap : Nat), Kv w' (New W w') (.slice a n cap) k1 → Calls Tryz.prog 18 #[.agg (hdC h1 (.slice a n cap)).toArray] w' fun e w2 => ∃ g cp, e = .returned (.tuple #[.slice (some ⟨g, 0, none⟩) 2 cp, .int .i64 0]) ∧ g < w2.heap.size ∧ w2.cell? ⟨g, 4, none⟩ = some (.int .i64 1) ∧ w2.cell? ⟨g, 5, none⟩ = some (.int .i64 1) ∧ w2.cell? ⟨g, 6, none⟩ = some (.int .i64 2) ∧ w2.cell? ⟨g, 7, none⟩ = some (.int .i64 2) ∧ Below w'.heap.size w' w2) := fun W w' a n cap hk => by
    refine (rects_any (New W w') h1 k1 a n cap w' (fun c hc => hc.2) hk m1 v1 t1 o1).mono ?_
    rintro e w2 ⟨v, rfl, hown, hb⟩
    rw [r1] at hown
    obtain ⟨g, cp, rfl⟩ := ownsRow_succ hown
    refine ⟨g, cp, by rw [q1]; rfl, (hown.lt g rfl).2, ?_, ?_, ?_, ?_, hb⟩
    · exact (hown.cellAt 4 (by decide)).trans rfl
    · exact (hown.cellAt 5 (by decide)).trans rfl
    · exact (hown.cellAt 6 (by decide)).trans rfl
    · exact (hown.cellAt 7 (by decide)).trans rfl
  have HC2 : Hid (∀ (W w' : World) (a : Option Addr) (n cap : Nat), Kv w' (New W w') (.slice a n cap) k2 → Calls Tryz.prog 20 #[.agg (hdC h2 (.slice a n cap)).toArray] w' fun e w2 => e = .returned (.int .i64 0) ∧ Below w'.heap.size w' w2) := fun W w' a n cap hk => by
    have := formsCheck_any (New W w') h2 k2 a n cap w' (fun c hc => hc.2) hk m2 v2 t2 o2
    rw [q2] at this
    exact this
  have HC3 : Hid (∀ (W w' : World) (a : Option Addr) (n cap : Nat), Kv w' (New W w') (.slice a n cap) k3 → Calls Tryz.prog 20 #[.agg (hdC h3 (.slice a n cap)).toArray] w' fun e w2 => e = .returned (.int .i64 10) ∧ Below w'.heap.size w' w2) := fun W w' a n cap hk => by
    have := formsCheck_any (New W w') h3 k3 a n cap w' (fun c hc => hc.2) hk m3 v3 t3 o3
    rw [q3] at this
    exact this
  have HC4 : Hid (∀ (W w' : World) (a : Option Addr) (n cap : Nat), Kv w' (New W w') (.slice a n cap) k4 → Calls Tryz.prog 20 #[.agg (hdC h4 (.slice a n cap)).toArray] w' fun e w2 => e = .returned (.int .i64 8) ∧ Below w'.heap.size w' w2) := fun W w' a n cap hk => by
    have := formsCheck_any (New W w') h4 k4 a n cap w' (fun c hc => hc.2) hk m4 v4 t4 o4
    rw [q4] at this
    exact this
  have HC5 : Hid (∀ (W w' : World) (a : Option Addr) (n cap : Nat), Kv w' (New W w') (.slice a n cap) k5 → Calls Tryz.prog 20 #[.agg (hdC h5 (.slice a n cap)).toArray] w' fun e w2 => e = .returned (.int .i64 2) ∧ Below w'.heap.size w' w2) := fun W w' a n cap hk => by
    have := formsCheck_any (New W w') h5 k5 a n cap w' (fun c hc => hc.2) hk m5 v5 t5 o5
    rw [q5] at this
    exact this
  have HU : Hid (∀ (W w' : World) (a : Option Addr) (n cap : Nat), Kv w' (New W w') (.slice a n cap) k6 → Calls Tryz.prog 21 #[.agg (hdC h6 (.slice a n cap)).toArray, .string ⟨#[83, 85, 77]⟩] w' fun e w2 => e = .returned (.bool true) ∧ Below w'.heap.size w' w2) := fun W w' a n cap hk => by
    have := uses_any (New W w') h6 k6 a n cap ⟨#[83, 85, 77]⟩ w' (fun c hc => hc.2) hk m6 v6 t6 o6
    rw [q6] at this
    exact this
  clear p1 b1 q1 r1 m1 v1 t1 o1 p2 b2 q2 m2 v2 t2 o2 p3 b3 q3 m3 v3 t3 o3 p4 b4 q4 m4 v4 t4 o4 p5 b5 q5 m5 v5 t5 o5 p6 b6 q6 m6 v6 t6 o6
  go_enter Tryz.func8, Tryz.ntmps8
  go_wp2_with (first | (go_at_call_of 19 [Value.string ⟨#[65, 49, 43, 83, 85, 77, 40, 66, 50, 58, 65, 49, 41, 42, 65, 49]⟩]; refine (HO1.out _).mono ?_; rintro e u1 ⟨a1, n1, cap1, rfl, hk1, hb1⟩; have HK1 := hide hk1; have HB1 := hide hb1; clear hk1 hb1 HO1) | (go_at_call 18; refine (HR.out _ _ _ _ _ HK1.out).mono ?_; rintro e w1 ⟨g, cp, rfl, hg, g4, g5, g6, g7, hb⟩; have HB1' := hide (HB1.out.trans (hb.mono HB1.out.size)); have HG := hide (And.intro hg (And.intro g4 (And.intro g5 (And.intro g6 g7)))); clear hg g4 g5 g6 g7 hb HR HB1) | (go_at_call_of 19 [Value.string ⟨#[83, 85, 77, 40, 65, 49, 44, 50, 41]⟩]; refine (HO2.out _).mono ?_; rintro e u2 ⟨a2, n2, cap2, rfl, hk2, hb2⟩; have HK2 := hide hk2; have HB2 := hide (HB1'.out.trans (hb2.mono HB1'.out.size)); have HN2 := hide hb2; clear hk2 hb2 HO2) | (go_at_call 20; refine (HC2.out _ _ _ _ _ HK2.out).mono ?_; rintro e w2 ⟨rfl, hb⟩; have HB2' := hide (HB2.out.trans (hb.mono HB2.out.size)); have HNN2 := hide (HN2.out.trans (hb.mono HN2.out.size)); clear hb HC2) | (go_at_call_of 19 [Value.string ⟨#[83, 85, 77, 40, 41]⟩]; refine (HO3.out _).mono ?_; rintro e u3 ⟨a3, n3, cap3, rfl, hk3, hb3⟩; have HK3 := hide hk3; have HB3 := hide (HB2'.out.trans (hb3.mono HB2'.out.size)); have HN3 := hide hb3; clear hk3 hb3 HO3) | (go_at_call 20; refine (HC3.out _ _ _ _ _ HK3.out).mono ?_; rintro e w3 ⟨rfl, hb⟩; have HB3' := hide (HB3.out.trans (hb.mono HB3.out.size)); have HNN3 := hide (HNN2.out.trans ((HN3.out.trans (hb.mono HN3.out.size)).mono HNN2.out.size)); clear hb HC3) | (go_at_call_of 19 [Value.string ⟨#[70, 79, 79, 40, 49, 41]⟩]; refine (HO4.out _).mono ?_; rintro e u4 ⟨a4, n4, cap4, rfl, hk4, hb4⟩; have HK4 := hide hk4; have HB4 := hide (HB3'.out.trans (hb4.mono HB3'.out.size)); have HN4 := hide hb4; clear hk4 hb4 HO4) | (go_at_call 20; refine (HC4.out _ _ _ _ _ HK4.out).mono ?_; rintro e w4 ⟨rfl, hb⟩; have HB4' := hide (HB4.out.trans (hb.mono HB4.out.size)); have HNN4 := hide (HNN3.out.trans ((HN4.out.trans (hb.mono HN4.out.size)).mono HNN3.out.size)); clear hb HC4) | (go_at_call_of 19 [Value.string ⟨#[86, 76, 79, 79, 75, 85, 80, 40, 49, 44, 50, 44, 51, 41]⟩]; refine (HO5.out _).mono ?_; rintro e u5 ⟨a5, n5, cap5, rfl, hk5, hb5⟩; have HK5 := hide hk5; have HB5 := hide (HB4'.out.trans (hb5.mono HB4'.out.size)); have HN5 := hide hb5; clear hk5 hb5 HO5) | (go_at_call 20; refine (HC5.out _ _ _ _ _ HK5.out).mono ?_; rintro e w5 ⟨rfl, hb⟩; have HB5' := hide (HB5.out.trans (hb.mono HB5.out.size)); have N := HNN4.out.trans ((HN5.out.trans (hb.mono HN5.out.size)).mono HNN4.out.size); have hg := HG.out.1; have g4 := (N.cell (p := ⟨g, 4, none⟩) hg).trans HG.out.2.1; have g5 := (N.cell (p := ⟨g, 5, none⟩) hg).trans HG.out.2.2.1; have g6 := (N.cell (p := ⟨g, 6, none⟩) hg).trans HG.out.2.2.2.1; have g7 := (N.cell (p := ⟨g, 7, none⟩) hg).trans HG.out.2.2.2.2; clear N hg; clear hb HC5) | (go_at_call_of 19 [Value.string ⟨#[49, 43, 83, 85, 77, 40, 50, 41]⟩]; refine (HO6.out _).mono ?_; rintro e u6 ⟨a6, n6, cap6, rfl, hk6, hb6⟩; have HK6 := hide hk6; have HB6 := hide (HB5'.out.trans (hb6.mono HB5'.out.size)); clear hk6 hb6 HO6) | (go_at_call 21; refine (HU.out _ _ _ _ _ HK6.out).mono ?_; rintro e w6 ⟨rfl, hb⟩; have HB7 := hide (HB6.out.trans (hb.mono HB6.out.size)); clear hb HU))
  go_ret
  exact ⟨rfl, HB7.out⟩
end Go.Proofs.YtklldmidcmfbdaaGreatDoor
