/-
  The answer's Same at forms that are alike.
-/
import Derived.Test.YtklldmidcmfbdaaGreatDoorFmY
import Derived.Deep.RegionHeld3
namespace Go.Proofs.YtklldmidcmfbdaaGreatDoor
open Go.RowKit Go.Shelf

/-- A slice of wants, in all later worlds. -/
def Wts (w : World) (v : Value) (l : List Int) : Prop := ∃ p cap, v = .slice p l.length cap ∧ (l = [] ∨ ∃ g, p = some ⟨g, 0, none⟩ ∧ ∀ W, Below w.heap.size w W → ∀ i x, l[i]? = some x → W.cell? ⟨g, i, none⟩ = some (.int .i64 x))
def wantsI (ws : ByteArray) (n : Nat) : List Int := (List.range n).map (wantAt ws)
theorem Wts.of {w : World} {base n : Nat} {v : Value} {ws : ByteArray} (h : w.ownsRow base 28 1 v n (wantsL ws n)) : Wts w v (wantsI ws n) := by
  have hl : (wantsI ws n).length = n := by simp [wantsI]
  cases n with
  | zero =>
    rcases h.2 with ⟨rfl, _⟩ | ⟨g, cap, cur, rfl, _⟩
    · exact ⟨none, 0, rfl, .inl rfl⟩
    · exact ⟨_, cap, rfl, .inl rfl⟩
  | succ n =>
    obtain ⟨g, cap, rfl⟩ := ownsRow_succ h
    have hg := (h.lt g rfl).2
    refine ⟨_, cap, by rw [hl], .inr ⟨g, rfl, fun W hW i x hx => ?_⟩⟩
    have hil : i < n + 1 := by have := (List.getElem?_eq_some_iff.1 hx).1; omega
    refine (hW.cell (p := ⟨g, i, none⟩) hg).trans ((h.cellAt i (by omega)).trans ?_)
    simp only [wantsI, List.getElem?_map, Option.map_eq_some_iff] at hx
    obtain ⟨j, hj, rfl⟩ := hx
    simp only [wantsL, List.getElem?_map, hj, Option.map_some]
theorem Wts.below {w w' : World} {v : Value} {l : List Int} (h : Wts w v l) (hb : Below w.heap.size w w') : Wts w' v l := by
  obtain ⟨p, cap, e, h⟩ := h
  refine ⟨p, cap, e, ?_⟩
  rcases h with h | ⟨g, hp, h⟩
  · exact .inl h
  · exact .inr ⟨g, hp, fun W hW => h W (hb.trans (hW.mono hb.size))⟩
set_option maxRecDepth 100000 in
set_option maxHeartbeats 4000000 in
theorem same_eq (fn : ByteArray) (x y : Int) (v u : Value) (l : List Int) (w : World) (hl : l.length ≤ 4) (hv : Wts w v l) (hu : Wts w u l) :
    Calls Tryz.prog 7 #[.agg #[.string fn, .int .i64 x, .int .i64 y, v], .agg #[.string fn, .int .i64 x, .int .i64 y, u]] w fun e w' => e = .returned (.bool true) ∧ Below w.heap.size w w' := by
  obtain ⟨p, cap, rfl, hp⟩ := hv
  obtain ⟨q, cup, rfl, hq⟩ := hu
  have HP := hide hp
  have HQ := hide hq
  have hs1 : (fn.toList == fn.toList) = true := by simp
  clear hp hq
  go_enter Tryz.func7, Tryz.ntmps7
  go_wp2
  have bw1 : Below w.heap.size w ((w.alloc (.cells #[.string fn, .int .i64 x, .int .i64 y, .slice p l.length cap] 27)).alloc (.cells #[.string fn, .int .i64 x, .int .i64 y, .slice q l.length cup] 27)) := ((Below.refl _ _).alloc (Nat.le_refl _) _).alloc (by simp) _
  have hz0 : ((w.alloc (.cells #[.string fn, .int .i64 x, .int .i64 y, .slice p l.length cap] 27)).alloc (.cells #[.string fn, .int .i64 x, .int .i64 y, .slice q l.length cup] 27)).heap.size = w.heap.size + 2 := by simp
  have h0 : ((w.alloc (.cells #[.string fn, .int .i64 x, .int .i64 y, .slice p l.length cap] 27)).alloc (.cells #[.string fn, .int .i64 x, .int .i64 y, .slice q l.length cup] 27)).cell? ⟨w.heap.size, 3, none⟩ = some (.slice p l.length cap) := by
    have e := (Below.heap_alloc (w.alloc (.cells #[.string fn, .int .i64 x, .int .i64 y, .slice p l.length cap] 27)) (.cells #[.string fn, .int .i64 x, .int .i64 y, .slice q l.length cup] 27) w.heap.size (by simp)).trans (World.alloc_heap_new w _)
    simp [World.cell?, e]
  have h1 : ((w.alloc (.cells #[.string fn, .int .i64 x, .int .i64 y, .slice p l.length cap] 27)).alloc (.cells #[.string fn, .int .i64 x, .int .i64 y, .slice q l.length cup] 27)).cell? ⟨w.heap.size + 1, 3, none⟩ = some (.slice q l.length cup) := by
    have e := bcells_new (w.alloc (.cells #[.string fn, .int .i64 x, .int .i64 y, .slice p l.length cap] 27)) #[.string fn, .int .i64 x, .int .i64 y, .slice q l.length cup] 27 3
    rw [World.size_alloc] at e
    exact e
  generalize hW1 : ((w.alloc (.cells #[.string fn, .int .i64 x, .int .i64 y, .slice p l.length cap] 27)).alloc (.cells #[.string fn, .int .i64 x, .int .i64 y, .slice q l.length cup] 27)) = W1 at *
  clear hW1
  have HN1 : Hid (∀ W, Below W1.heap.size W1 W → W.cell? ⟨w.heap.size, 3, none⟩ = some (.slice p l.length cap) ∧ W.cell? ⟨w.heap.size + 1, 3, none⟩ = some (.slice q l.length cup)) := fun W hW => ⟨(hW.cell (p := ⟨w.heap.size, 3, none⟩) (by show w.heap.size < _; omega)).trans h0, (hW.cell (p := ⟨w.heap.size + 1, 3, none⟩) (by show w.heap.size + 1 < _; omega)).trans h1⟩
  have HBW := hide bw1
  clear h0 h1 bw1
  go_loopw [5] (fun iv wr => ∃ i : Nat, iv = .int .i64 i ∧ i ≤ l.length ∧ Below W1.heap.size W1 wr) (fun iv _ => l.length - (intOf iv).toNat)
  case atStart => exact ⟨0, rfl, Nat.zero_le _, Below.refl _ _⟩
  case round =>
    obtain ⟨i, rfl, hi, hB⟩ := hrel
    have hc := HN1.out wr hB
    by_cases hlt : i < l.length
    · have g1 : (i : Int) < l.length := by omega
      obtain ⟨z, hz⟩ : ∃ z, l[i]? = some z := ⟨_, List.getElem?_eq_getElem hlt⟩
      rcases HP.out with rfl | ⟨g, rfl, hg⟩
      · exact absurd hlt (by simp)
      rcases HQ.out with rfl | ⟨g', rfl, hg'⟩
      · exact absurd hlt (by simp)
      have HS : Hid (∀ W, Below W1.heap.size W1 W → Below W1.heap.size W1 W ∧ W.cell? ⟨w.heap.size, 3, none⟩ = some (.slice (some ⟨g, 0, none⟩) l.length cap) ∧ W.cell? ⟨w.heap.size + 1, 3, none⟩ = some (.slice (some ⟨g', 0, none⟩) l.length cup) ∧ W.cell? ⟨g, i, none⟩ = some (.int .i64 z) ∧ W.cell? ⟨g', i, none⟩ = some (.int .i64 z)) := fun W hW => ⟨hW, (HN1.out W hW).1, (HN1.out W hW).2, hg W (HBW.out.trans (hW.mono HBW.out.size)) i z hz, hg' W (HBW.out.trans (hW.mono HBW.out.size)) i z hz⟩
      have hs0 := HS.out wr hB
      have HB := hide hB
      clear hg hg' hc hB
      go_wp2
      go_region_held3 (fun W => Below W1.heap.size W1 W ∧ W.cell? ⟨w.heap.size, 3, none⟩ = some (.slice (some ⟨g, 0, none⟩) l.length cap) ∧ W.cell? ⟨w.heap.size + 1, 3, none⟩ = some (.slice (some ⟨g', 0, none⟩) l.length cup) ∧ W.cell? ⟨g, i, none⟩ = some (.int .i64 z) ∧ W.cell? ⟨g', i, none⟩ = some (.int .i64 z)) (first | assumption | (refine HS.out _ ?_; exact HB.out.drew)) (fail)
      all_goals go_wp2
      go_roundw
      case rel => exact ⟨i + 1, by go_num, by omega, HB.out.drew⟩
      case measure => simp [intOf]; omega
    · have g1 : ¬ (i : Int) < l.length := by omega
      go_wp2
      go_ret
      exact ⟨rfl, HBW.out.trans (hB.mono HBW.out.size)⟩
end Go.Proofs.YtklldmidcmfbdaaGreatDoor
