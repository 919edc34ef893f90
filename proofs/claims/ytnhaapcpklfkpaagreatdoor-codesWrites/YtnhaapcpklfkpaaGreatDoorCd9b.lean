/-
  What is known of the sections that sections tells; the contract of codes' ofWords.
-/
import Derived.Test.YtnhaapcpklfkpaaGreatDoorCd9
import Derived.Test.YtnhaapcpklfkpaaGreatDoorCd5b
namespace Go.Proofs.YtnhaapcpklfkpaaGreatDoor
open Go.RowKit
set_option linter.unusedSimpArgs false

theorem rd_of_pieces {l : List UInt8} : ∀ (n : Nat) (r : List UInt8) (pre ys : List Pc), r.length ≤ n → Rd l pre r → piecesR r = some ys → Rd l (pre ++ ys) []
  | 0, r, pre, ys, hn, h, hp => by
    have : r = [] := List.eq_nil_of_length_eq_zero (by omega)
    subst this
    rw [pieces_nil] at hp
    cases hp
    rwa [List.append_nil]
  | n + 1, r, pre, ys, hn, h, hp => by
    by_cases hr : r = []
    · subst hr
      rw [pieces_nil] at hp
      cases hp
      rwa [List.append_nil]
    · cases hf : firstR r with
      | none => rw [pieces_none hr hf] at hp; cases hp
      | some x =>
        obtain ⟨p, k⟩ := x
        rw [pieces_some hf] at hp
        obtain ⟨h1, h2, _⟩ := first_len hf
        cases hq : piecesR (r.drop k) with
        | none => rw [hq] at hp; cases hp
        | some zs =>
          rw [hq] at hp
          cases hp
          have := rd_of_pieces n (r.drop k) (pre ++ [p]) zs (by rw [List.length_drop]; omega) (h.more hf) hq
          simpa using this
/-- What is known of a section that may be. -/
structure Sane (ps : List Pc) : Prop where
  len : ps.length ≤ 60
  texts : ∀ q ∈ ps, q.t.length ≤ 60
  right : rightS ps = true
theorem secsR_mem : ∀ (n : Nat) (ps : List Pc), ps.length ≤ n → ∀ s ∈ secsR ps, ∀ q ∈ s, q ∈ ps
  | 0, ps, h => by
    have : ps = [] := List.eq_nil_of_length_eq_zero (by omega)
    subst this
    simp [secsR, secsF]
  | n + 1, ps, h => by
    rcases List.eq_nil_or_concat ps with rfl | ⟨qs, p, rfl⟩
    · simp [secsR, secsF]
    · have hq : qs.length ≤ n := by simp at h; omega
      have ih := secsR_mem n qs hq
      rw [List.concat_eq_append]
      intro s hs q hqs
      by_cases hk : p.k = 5
      · rw [secsR_part hk] at hs
        rcases List.mem_append.1 hs with z | z
        · exact List.mem_append_left _ (ih s z q hqs)
        · simp at z; subst z; cases hqs
      · rw [secsR_piece hk] at hs
        have e : secsR qs = (secsF qs).1 ++ [(secsF qs).2] := rfl
        rw [e] at ih
        rcases List.mem_append.1 hs with z | z
        · exact List.mem_append_left _ (ih s (List.mem_append_left _ z) q hqs)
        · simp at z
          subst z
          rcases List.mem_append.1 hqs with z | z
          · exact List.mem_append_left _ (ih _ (by simp) q z)
          · exact List.mem_append_right _ z
theorem sane_of {l : List UInt8} {ss : List (List Pc)} (h : secsOpt l = some ss) : (∀ ps ∈ ss, Sane ps) ∧ 1 ≤ ss.length ∧ ss.length ≤ 3 := by
  unfold secsOpt at h
  split at h
  · cases h
  · rename_i hl
    unfold readR at h
    cases hp : piecesR l with
    | none => rw [hp] at h; cases h
    | some xs =>
      rw [hp] at h
      simp only at h
      split at h
      · rename_i hx
        cases h
        simp only [Bool.and_eq_true, decide_eq_true_eq, List.all_eq_true] at hx
        have hrd := rd_of_pieces l.length l [] xs (Nat.le_refl _) Rd.none hp
        rw [List.nil_append] at hrd
        have h1 := rd_len hrd
        have h2 := rd_texts hrd
        refine ⟨fun ps hps => ⟨?_, fun q hq => ?_, hx.2 ps hps⟩, by simp [secsR], hx.1.2⟩
        · have := (secsR_small _ xs (Nat.le_refl _)).2 ps hps; omega
        · have := h2 q (secsR_mem _ xs (Nat.le_refl _) ps hps q hq); omega
      · cases h
theorem flat_get {ps : List Pc} {i : Nat} {q : Pc} (h : ps[i]? = some q) : (ps.flatMap pcC)[i * 2]? = some (.int .i64 q.k) ∧ (ps.flatMap pcC)[i * 2 + 1]? = some (.string ⟨q.t.toArray⟩) := by
  induction ps generalizing i with
  | nil => cases h
  | cons y ps ih =>
    match i, h with
    | 0, h => cases h; exact ⟨rfl, rfl⟩
    | i + 1, h =>
      rw [List.getElem?_cons_succ] at h
      obtain ⟨h1, h2⟩ := ih h
      have e : ((y :: ps).flatMap pcC) = .int .i64 y.k :: .string ⟨y.t.toArray⟩ :: ps.flatMap pcC := rfl
      rw [e, show (i + 1) * 2 = i * 2 + 1 + 1 by omega]
      exact ⟨h1, h2⟩
theorem pcs_of {W : World} {n₀ : Nat} {u : Value} {ps : List Pc} (h : W.ownsRow n₀ 93 2 u ps.length (ps.flatMap pcC)) : PcsAt W u ps := by
  rcases h.2 with ⟨e, hn⟩ | ⟨g, cap, cur, e1, e2, e3, e4, e5, e6, e7⟩
  · subst e
    exact ⟨none, 0, by rw [hn], .inl (List.eq_nil_of_length_eq_zero hn)⟩
  · subst e1
    refine ⟨_, cap, rfl, .inr ⟨g, rfl, (Array.getElem?_eq_some_iff.1 e3).1, fun i q hq => ?_⟩⟩
    have hi := (List.getElem?_eq_some_iff.1 hq).1
    obtain ⟨h1, h2⟩ := flat_get hq
    exact ⟨(h.cellAt (i * 2) (by omega)).trans h1, (h.cellAt (i * 2 + 1) (by omega)).trans h2⟩
/-- Sections that a value is written by. -/
structure SsAt (w : World) (g cap : Nat) (G : List (Value × List Pc)) : Prop where
  secs : SecsAt w g G
  pcs : ∀ (i : Nat) (x : Value × List Pc), G[i]? = some x → PcsAt w x.1 x.2
  sane : ∀ (i : Nat) (x : Value × List Pc), G[i]? = some x → Sane x.2
  one : 1 ≤ G.length
  three : G.length ≤ 3
  le : G.length ≤ cap
  mx : cap ≤ maxLen
  free : ∀ o, w.frozen? ⟨g, o, none⟩ = false
  apart : ∀ (i : Nat) (x : Value × List Pc), G[i]? = some x → x.1.ownBlock ≠ some g
theorem SsAt.of {n₀ B : Nat} {W : World} {g cap : Nat} {G : List (Value × List Pc)} {C : Array Value} {l : List UInt8} {ss : List (List Pc)} (h : RS n₀ B W g cap G C) (hG : G.map Prod.snd = ss) (ho : secsOpt l = some ss) : SsAt W g cap G := by
  obtain ⟨h1, h2, h3⟩ := sane_of ho
  rw [← hG] at h1 h2 h3
  rw [List.length_map] at h2 h3
  exact ⟨h.secs, fun i x hx => pcs_of (h.rows i x hx), fun i x hx => h1 _ (List.mem_map.2 ⟨x, List.mem_of_getElem? hx, rfl⟩), h2, h3, h.le, h.mx, fun o => by simp [World.frozen?, h.row], fun i x hx => h.ug hx⟩
theorem SsAt.below {w w' : World} {g cap : Nat} {G : List (Value × List Pc)} (h : SsAt w g cap G) (k : Below w.heap.size w w') : SsAt w' g cap G :=
  ⟨h.secs.below k, fun i x hx => (h.pcs i x hx).below k, h.sane, h.one, h.three, h.le, h.mx, fun o => (k.frozen (p := ⟨g, o, none⟩) h.secs.1).trans (h.free o), h.apart⟩
theorem placeR_le {t : List UInt8} (h : t.length ≤ 60) : (placeR t).noughts ≤ 60 ∧ (placeR t).fixed ≤ 60 ∧ (placeR t).free ≤ 60 := by
  obtain ⟨h1, h2⟩ := cut_both t [46]
  refine ⟨Nat.le_trans (List.count_le_length) ?_, Nat.le_trans (List.count_le_length) ?_, Nat.le_trans (List.count_le_length) ?_⟩
  · exact Nat.le_trans h1 h
  · exact Nat.le_trans h2 h
  · exact Nat.le_trans h2 h
theorem plc_le : ∀ (n : Nat) (ps : List Pc), ps.length ≤ n → (∀ q ∈ ps, q.t.length ≤ 60) → (plcOf ps).noughts ≤ 60 ∧ (plcOf ps).fixed ≤ 60 ∧ (plcOf ps).free ≤ 60
  | 0, ps, h, _ => by
    have : ps = [] := List.eq_nil_of_length_eq_zero (by omega)
    subst this
    simp [plcOf]
  | n + 1, ps, h, ht => by
    rcases List.eq_nil_or_concat ps with rfl | ⟨qs, p, rfl⟩
    · simp [plcOf]
    · have hq : qs.length ≤ n := by simp at h; omega
      rw [List.concat_eq_append] at ht ⊢
      have ih := plc_le n qs hq fun q hq => ht q (List.mem_append_left _ hq)
      rw [plc_snoc]
      split
      · exact placeR_le (ht p (by simp))
      · exact ih
theorem Sane.plc {ps : List Pc} (h : Sane ps) : (plcOf ps).noughts ≤ 60 ∧ (plcOf ps).fixed ≤ 60 ∧ (plcOf ps).free ≤ 60 := plc_le _ ps (Nat.le_refl _) h.texts
theorem piece_len {ps : List Pc} (h : Sane ps) {p : Plc} (hp : p.noughts ≤ 60 ∧ p.fixed ≤ 60) {n y m d : Nat} {x : List UInt8} (hn : n ≤ 9223372036854775807) (hy : y ≤ 100000) (hm : m ≤ 100000) (hd : d ≤ 100000) (hx : x.length ≤ 5000) : ∀ q ∈ ps, (pieceT p n y m d x q).length ≤ 5000 := by
  intro q hq
  have ht := h.texts q hq
  unfold pieceT
  split
  · have h1 := wholeT_len (p := p) (n := n / 1000000) (by omega) (by omega)
    have h2 := fracP_len p (m := n % 1000000) (Nat.mod_lt _ (by decide))
    unfold numT
    split
    · simp only [List.length_append, List.length_cons]; omega
    · omega
  · split
    · unfold dayT
      rw [padTo_len]
      have h1 : dayN q.t y m d ≤ 100000 := by unfold dayN; split <;> (try split) <;> (try split) <;> omega
      have h2 : (Lib.decDigits (dayN q.t y m d)).length ≤ 20 := dec_len (by omega)
      omega
    · split
      · exact hx
      · omega
def zeroPlc : Plc := ⟨false, false, 0, 0, 0⟩
/-- How a text or a truth is written. -/
def ofWordsR (G : List (Value × List Pc)) (x : List UInt8) : List UInt8 := match G.find? (fun y => textB y.2) with
  | some y => secT zeroPlc 0 0 0 0 x y.2
  | none => x
end Go.Proofs.YtnhaapcpklfkpaaGreatDoor
