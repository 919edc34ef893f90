/-
  Out of TrF, TrK, TrD, TrL1, TrO1, TrQ, TrU, TrX, TrO3, what is asked for (laid by pack9.py).
-/
import Derived.Test.YtklldmidcmfbdaaGreatDoorVNum
import Derived.Test.YtklldmidcmfbdaaGreatDoorVVal
import Derived.Test.YtklldmidcmfbdaaGreatDoorVVal3
import Derived.Test.YtklldmidcmfbdaaGreatDoorVVal4
import Derived.Test.YtklldmidcmfbdaaGreatDoorZ1
import Derived.Test.YtklldmidcmfbdaaGreatDoorZ3
import Derived.Test.YtklldmidcmfbdaaGreatDoorZ4
import Derived.Test.YtklldmidcmfbdaaGreatDoorZ5
import Derived.Test.YtklldmidcmfbdaaGreatDoorZ5b
import Derived.BigCall
import Derived.BigGuard
import Derived.BigQuiet
import Derived.ChangeArms
import Derived.Deep.MidRow
import Derived.Deep.QuietTactic
import Derived.Deep.RegionHeld3
import Derived.Deep.RegionWith
import Derived.Deep.WholeRow
import Derived.Defers
import Derived.Great.BuildSlice
import Derived.LaidEql
import Derived.Laws.Cover1
import Derived.Laws.EntriesVeiled
import Derived.Laws.IdiomStrings
import Derived.Lib.AppendIntMem
import Derived.Lib.AtoiErrMem
import Derived.Lib.IndexMore
import Derived.Lib.ItoaMem
import Derived.Lib.LaidTab
import Derived.Lib.MinMax
import Derived.Lib.OthersKept
import Derived.Lib.Replace
import Derived.Lib.ReplaceLaws
import Derived.Lib.SmallJoins
import Derived.Lib.Walk
import Derived.LoopIn
import Derived.LoopNIn
import Derived.LoopTactic
import Derived.Maps.AppendAt
import Derived.OwnWalkIn
import Derived.RangeFuncBound
import Derived.RangeFuncBox
import Derived.RangeFuncCalls
import Derived.RangeFuncLeaves
import Derived.RangeFuncNested
import Derived.Recover
import Derived.RowKitTokens
import Derived.Shelf.Abstract
import Derived.Shelf.RegionOpen
import Derived.Stop.Asserts
import Derived.TacticsInMore
import Derived.WalkKit
import Derived.WalkLawsBesides
import Derived.WalkSmall
import Derived.WalkSpells
import Derived.WideShapes
namespace Go.Proofs.YtklldmidcmfbdaaGreatDoor
section
open Go.RowKit
/-- How many tokens a reader has. -/
def lenOf (w : World) (R : Nat) : Nat := match w.cell? ⟨R, 0, none⟩ with
  | some (.slice _ n _) => n
  | _ => 0
theorem Rdr.len {w : World} {R : Nat} {l : List Tok} (h : Rdr w R l) : lenOf w R = l.length := by
  obtain ⟨_, _, _, g, o, cap, hc, _⟩ := h
  simp [lenOf, hc]
end
section
open Go.RowKit
/-- Nodes in a row, each with its kids' slice. -/
def cellsN (L : List (Hd × Value)) : List Value := L.flatMap fun x => hdC x.1 x.2
def Ent (w : World) (D : Nat → Prop) : List (Hd × Value) → Fo → Prop
  | [], .nil => True
  | x :: L, .cons h k r => x.1 = h ∧ Kv w D x.2 k ∧ Ent w D L r
  | [], .cons _ _ _ => False
  | _ :: _, .nil => False
theorem ent_to {w w' : World} {D D' : Nat → Prop} (hs : ∀ b, D b → D' b ∧ w'.heap[b]? = w.heap[b]?) : ∀ (L : List (Hd × Value)) (F : Fo), Ent w D L F → Ent w' D' L F
  | [], .nil, _ => trivial
  | _ :: L, .cons _ _ r, h => ⟨h.1, kv_to h.2.1 hs, ent_to hs L r h.2.2⟩
  | [], .cons _ _ _, h => h
  | _ :: _, .nil, h => h
theorem ent_snoc {w : World} {D : Nat → Prop} {h : Hd} {v : Value} {k : Fo} (hk : Kv w D v k) : ∀ (L : List (Hd × Value)) (F : Fo), Ent w D L F → Ent w D (L ++ [(h, v)]) (F.snoc h k)
  | [], .nil, _ => ⟨rfl, hk, trivial⟩
  | _ :: L, .cons _ _ r, e => ⟨e.1, e.2.1, ent_snoc hk L r e.2.2⟩
  | [], .cons _ _ _, e => e.elim
  | _ :: _, .nil, e => e.elim
theorem ent_len {w : World} {D : Nat → Prop} : ∀ (L : List (Hd × Value)) (F : Fo), Ent w D L F → L.length = F.len
  | [], .nil, _ => rfl
  | _ :: L, .cons _ _ r, e => by rw [List.length_cons, Fo.len, ent_len L r e.2.2]
  | [], .cons _ _ _, e => e.elim
  | _ :: _, .nil, e => e.elim
theorem ent_row {w : World} {D : Nat → Prop} {g : Nat} (hD : D g) : ∀ (L : List (Hd × Value)) (F : Fo) (o : Nat), (∀ j u, (cellsN L)[j]? = some u → w.cell? ⟨g, o + j, none⟩ = some u) → Ent w D L F → Row w D F g o
  | [], .nil, _, _, _ => trivial
  | x :: L, .cons h k r, o, hc, e => by
    obtain ⟨e1, e2, e3⟩ := e
    subst e1
    refine row_cons.2 ⟨hD, ⟨x.2, fun j hj => ?_, e2⟩, ent_row hD L r (o + 16) (fun j u hu => ?_) e3⟩
    · have : (hdC x.1 x.2)[j]? = some ((hdC x.1 x.2)[j]'(by rw [hdC_len]; exact hj)) := List.getElem?_eq_getElem _
      rw [this]
      refine hc j _ ?_
      unfold cellsN
      rw [List.flatMap_cons, List.getElem?_append_left (by rw [hdC_len]; exact hj)]
      exact this
    · have := hc (16 + j) u (by
        unfold cellsN at *
        rw [List.flatMap_cons, List.getElem?_append_right (by rw [hdC_len]; omega), hdC_len, show 16 + j - 16 = j by omega]
        exact hu)
      rw [show o + 16 + j = o + (16 + j) by omega]
      exact this
  | [], .cons _ _ _, _, _, e => e.elim
  | _ :: _, .nil, _, _, e => e.elim
theorem infoNode3 : (Tryz.prog.info? 68).map (fun i => (i.zero, i.size, i.bytes)) = some (some (.agg (hdC zh (.slice none 0 0)).toArray), 16, 144) := by kernel_rfl
/-- Blocks of kids under way: new ones, but for their own row. -/
def Off (w : World) (v : Value) (wr : World) (b : Nat) : Prop := w.heap.size ≤ b ∧ v.ownBlock ≠ some b ∧ b < wr.heap.size
/-- The kids under way. -/
structure KidsAt (R : Nat) (w : World) (v : Value) (L : List (Hd × Value)) (F : Fo) (r : List Tok) (wr : World) : Prop where
  own : wr.ownsRow w.heap.size 68 16 v L.length (cellsN L)
  ent : Ent wr (Off w v wr) L F
  rdr : Rdr wr R r
  ended : Ended r
  bar : Bar R w wr
  some1 : 1 ≤ L.length
theorem own_slice {wr : World} {n₀ n : Nat} {v : Value} {xs : List Value} (h : wr.ownsRow n₀ 68 16 v n xs) (hn : 1 ≤ n) : ∃ g cap, v = .slice (some ⟨g, 0, none⟩) n cap ∧ n₀ ≤ g ∧ g < wr.heap.size ∧ n ≤ cap ∧ cap ≤ maxLen ∧ ∀ j u, xs[j]? = some u → wr.cell? ⟨g, j, none⟩ = some u := by
  have h' := h
  rcases h.2 with ⟨_, h0⟩ | ⟨g, cap, cur, rfl, hb, hg, hnc, hcm, hcs, htake⟩
  · omega
  · refine ⟨g, cap, rfl, hb, (Array.getElem?_eq_some_iff.1 hg).1, hnc, hcm, fun j u hu => ?_⟩
    have hj : j < xs.length := (List.getElem?_eq_some_iff.1 hu).1
    rw [h'.cellAt j (by rw [h.1] at hj; exact hj)]
    exact hu
theorem KidsAt.kv {R : Nat} {w wr : World} {v : Value} {L : List (Hd × Value)} {F : Fo} {r : List Tok} (h : KidsAt R w v L F r wr) : ∃ a n cap, v = .slice a n cap ∧ Kv wr (New w wr) (.slice a n cap) F := by
  obtain ⟨g, cap, rfl, hb, hg, hnc, hcm, hc⟩ := own_slice h.own h.some1
  refine ⟨_, _, _, rfl, _, _, _, rfl, ent_len _ _ h.ent, .inr ⟨g, 0, rfl, hnc, hcm, ?_⟩⟩
  exact ent_row ⟨hb, hg⟩ L F 0 (fun j u hu => by rw [Nat.zero_add]; exact hc j u hu) (ent_to (fun b hb => ⟨⟨hb.1, hb.2.2⟩, rfl⟩) L F h.ent)
end
section
open Go.RowKit
theorem Box.kids {w : World} {b : Nat} {h : Hd} {v : Value} (k : Box w b (hdC h v)) (u : Value) : Box (w.setCell ⟨b, 15, none⟩ u) b (hdC h u) := by
  unfold Box at *
  show (w.heap.modify b _)[b]? = _
  rw [Array.getElem?_modify, if_pos rfl, k]
  rfl
end
section
open Go.RowKit
theorem line_61 (w : World) : Calls Tryz.prog 70 #[.string ⟨#[61]⟩] w fun e w' => e = .returned (.int .i64 (0)) ∧ w' = w := by
  have e61 : ((⟨#[61]⟩ : ByteArray).toList == [61]) = true := by kernel_rfl
  have e60_62 : ((⟨#[61]⟩ : ByteArray).toList == [60, 62]) = false := by kernel_rfl
  have e60 : ((⟨#[61]⟩ : ByteArray).toList == [60]) = false := by kernel_rfl
  have e62 : ((⟨#[61]⟩ : ByteArray).toList == [62]) = false := by kernel_rfl
  have e60_61 : ((⟨#[61]⟩ : ByteArray).toList == [60, 61]) = false := by kernel_rfl
  have e62_61 : ((⟨#[61]⟩ : ByteArray).toList == [62, 61]) = false := by kernel_rfl
  have e38 : ((⟨#[61]⟩ : ByteArray).toList == [38]) = false := by kernel_rfl
  have e43 : ((⟨#[61]⟩ : ByteArray).toList == [43]) = false := by kernel_rfl
  have e45 : ((⟨#[61]⟩ : ByteArray).toList == [45]) = false := by kernel_rfl
  have e42 : ((⟨#[61]⟩ : ByteArray).toList == [42]) = false := by kernel_rfl
  have e47 : ((⟨#[61]⟩ : ByteArray).toList == [47]) = false := by kernel_rfl
  go_enter Tryz.func70, Tryz.ntmps70
  go_wp2
  go_ret
  exact ⟨rfl, rfl⟩
theorem line_60_62 (w : World) : Calls Tryz.prog 70 #[.string ⟨#[60, 62]⟩] w fun e w' => e = .returned (.int .i64 (0)) ∧ w' = w := by
  have e61 : ((⟨#[60, 62]⟩ : ByteArray).toList == [61]) = false := by kernel_rfl
  have e60_62 : ((⟨#[60, 62]⟩ : ByteArray).toList == [60, 62]) = true := by kernel_rfl
  have e60 : ((⟨#[60, 62]⟩ : ByteArray).toList == [60]) = false := by kernel_rfl
  have e62 : ((⟨#[60, 62]⟩ : ByteArray).toList == [62]) = false := by kernel_rfl
  have e60_61 : ((⟨#[60, 62]⟩ : ByteArray).toList == [60, 61]) = false := by kernel_rfl
  have e62_61 : ((⟨#[60, 62]⟩ : ByteArray).toList == [62, 61]) = false := by kernel_rfl
  have e38 : ((⟨#[60, 62]⟩ : ByteArray).toList == [38]) = false := by kernel_rfl
  have e43 : ((⟨#[60, 62]⟩ : ByteArray).toList == [43]) = false := by kernel_rfl
  have e45 : ((⟨#[60, 62]⟩ : ByteArray).toList == [45]) = false := by kernel_rfl
  have e42 : ((⟨#[60, 62]⟩ : ByteArray).toList == [42]) = false := by kernel_rfl
  have e47 : ((⟨#[60, 62]⟩ : ByteArray).toList == [47]) = false := by kernel_rfl
  go_enter Tryz.func70, Tryz.ntmps70
  go_wp2
  go_ret
  exact ⟨rfl, rfl⟩
theorem line_60 (w : World) : Calls Tryz.prog 70 #[.string ⟨#[60]⟩] w fun e w' => e = .returned (.int .i64 (0)) ∧ w' = w := by
  have e61 : ((⟨#[60]⟩ : ByteArray).toList == [61]) = false := by kernel_rfl
  have e60_62 : ((⟨#[60]⟩ : ByteArray).toList == [60, 62]) = false := by kernel_rfl
  have e60 : ((⟨#[60]⟩ : ByteArray).toList == [60]) = true := by kernel_rfl
  have e62 : ((⟨#[60]⟩ : ByteArray).toList == [62]) = false := by kernel_rfl
  have e60_61 : ((⟨#[60]⟩ : ByteArray).toList == [60, 61]) = false := by kernel_rfl
  have e62_61 : ((⟨#[60]⟩ : ByteArray).toList == [62, 61]) = false := by kernel_rfl
  have e38 : ((⟨#[60]⟩ : ByteArray).toList == [38]) = false := by kernel_rfl
  have e43 : ((⟨#[60]⟩ : ByteArray).toList == [43]) = false := by kernel_rfl
  have e45 : ((⟨#[60]⟩ : ByteArray).toList == [45]) = false := by kernel_rfl
  have e42 : ((⟨#[60]⟩ : ByteArray).toList == [42]) = false := by kernel_rfl
  have e47 : ((⟨#[60]⟩ : ByteArray).toList == [47]) = false := by kernel_rfl
  go_enter Tryz.func70, Tryz.ntmps70
  go_wp2
  go_ret
  exact ⟨rfl, rfl⟩
theorem line_62 (w : World) : Calls Tryz.prog 70 #[.string ⟨#[62]⟩] w fun e w' => e = .returned (.int .i64 (0)) ∧ w' = w := by
  have e61 : ((⟨#[62]⟩ : ByteArray).toList == [61]) = false := by kernel_rfl
  have e60_62 : ((⟨#[62]⟩ : ByteArray).toList == [60, 62]) = false := by kernel_rfl
  have e60 : ((⟨#[62]⟩ : ByteArray).toList == [60]) = false := by kernel_rfl
  have e62 : ((⟨#[62]⟩ : ByteArray).toList == [62]) = true := by kernel_rfl
  have e60_61 : ((⟨#[62]⟩ : ByteArray).toList == [60, 61]) = false := by kernel_rfl
  have e62_61 : ((⟨#[62]⟩ : ByteArray).toList == [62, 61]) = false := by kernel_rfl
  have e38 : ((⟨#[62]⟩ : ByteArray).toList == [38]) = false := by kernel_rfl
  have e43 : ((⟨#[62]⟩ : ByteArray).toList == [43]) = false := by kernel_rfl
  have e45 : ((⟨#[62]⟩ : ByteArray).toList == [45]) = false := by kernel_rfl
  have e42 : ((⟨#[62]⟩ : ByteArray).toList == [42]) = false := by kernel_rfl
  have e47 : ((⟨#[62]⟩ : ByteArray).toList == [47]) = false := by kernel_rfl
  go_enter Tryz.func70, Tryz.ntmps70
  go_wp2
  go_ret
  exact ⟨rfl, rfl⟩
theorem line_60_61 (w : World) : Calls Tryz.prog 70 #[.string ⟨#[60, 61]⟩] w fun e w' => e = .returned (.int .i64 (0)) ∧ w' = w := by
  have e61 : ((⟨#[60, 61]⟩ : ByteArray).toList == [61]) = false := by kernel_rfl
  have e60_62 : ((⟨#[60, 61]⟩ : ByteArray).toList == [60, 62]) = false := by kernel_rfl
  have e60 : ((⟨#[60, 61]⟩ : ByteArray).toList == [60]) = false := by kernel_rfl
  have e62 : ((⟨#[60, 61]⟩ : ByteArray).toList == [62]) = false := by kernel_rfl
  have e60_61 : ((⟨#[60, 61]⟩ : ByteArray).toList == [60, 61]) = true := by kernel_rfl
  have e62_61 : ((⟨#[60, 61]⟩ : ByteArray).toList == [62, 61]) = false := by kernel_rfl
  have e38 : ((⟨#[60, 61]⟩ : ByteArray).toList == [38]) = false := by kernel_rfl
  have e43 : ((⟨#[60, 61]⟩ : ByteArray).toList == [43]) = false := by kernel_rfl
  have e45 : ((⟨#[60, 61]⟩ : ByteArray).toList == [45]) = false := by kernel_rfl
  have e42 : ((⟨#[60, 61]⟩ : ByteArray).toList == [42]) = false := by kernel_rfl
  have e47 : ((⟨#[60, 61]⟩ : ByteArray).toList == [47]) = false := by kernel_rfl
  go_enter Tryz.func70, Tryz.ntmps70
  go_wp2
  go_ret
  exact ⟨rfl, rfl⟩
theorem line_62_61 (w : World) : Calls Tryz.prog 70 #[.string ⟨#[62, 61]⟩] w fun e w' => e = .returned (.int .i64 (0)) ∧ w' = w := by
  have e61 : ((⟨#[62, 61]⟩ : ByteArray).toList == [61]) = false := by kernel_rfl
  have e60_62 : ((⟨#[62, 61]⟩ : ByteArray).toList == [60, 62]) = false := by kernel_rfl
  have e60 : ((⟨#[62, 61]⟩ : ByteArray).toList == [60]) = false := by kernel_rfl
  have e62 : ((⟨#[62, 61]⟩ : ByteArray).toList == [62]) = false := by kernel_rfl
  have e60_61 : ((⟨#[62, 61]⟩ : ByteArray).toList == [60, 61]) = false := by kernel_rfl
  have e62_61 : ((⟨#[62, 61]⟩ : ByteArray).toList == [62, 61]) = true := by kernel_rfl
  have e38 : ((⟨#[62, 61]⟩ : ByteArray).toList == [38]) = false := by kernel_rfl
  have e43 : ((⟨#[62, 61]⟩ : ByteArray).toList == [43]) = false := by kernel_rfl
  have e45 : ((⟨#[62, 61]⟩ : ByteArray).toList == [45]) = false := by kernel_rfl
  have e42 : ((⟨#[62, 61]⟩ : ByteArray).toList == [42]) = false := by kernel_rfl
  have e47 : ((⟨#[62, 61]⟩ : ByteArray).toList == [47]) = false := by kernel_rfl
  go_enter Tryz.func70, Tryz.ntmps70
  go_wp2
  go_ret
  exact ⟨rfl, rfl⟩
theorem line_38 (w : World) : Calls Tryz.prog 70 #[.string ⟨#[38]⟩] w fun e w' => e = .returned (.int .i64 (1)) ∧ w' = w := by
  have e61 : ((⟨#[38]⟩ : ByteArray).toList == [61]) = false := by kernel_rfl
  have e60_62 : ((⟨#[38]⟩ : ByteArray).toList == [60, 62]) = false := by kernel_rfl
  have e60 : ((⟨#[38]⟩ : ByteArray).toList == [60]) = false := by kernel_rfl
  have e62 : ((⟨#[38]⟩ : ByteArray).toList == [62]) = false := by kernel_rfl
  have e60_61 : ((⟨#[38]⟩ : ByteArray).toList == [60, 61]) = false := by kernel_rfl
  have e62_61 : ((⟨#[38]⟩ : ByteArray).toList == [62, 61]) = false := by kernel_rfl
  have e38 : ((⟨#[38]⟩ : ByteArray).toList == [38]) = true := by kernel_rfl
  have e43 : ((⟨#[38]⟩ : ByteArray).toList == [43]) = false := by kernel_rfl
  have e45 : ((⟨#[38]⟩ : ByteArray).toList == [45]) = false := by kernel_rfl
  have e42 : ((⟨#[38]⟩ : ByteArray).toList == [42]) = false := by kernel_rfl
  have e47 : ((⟨#[38]⟩ : ByteArray).toList == [47]) = false := by kernel_rfl
  go_enter Tryz.func70, Tryz.ntmps70
  go_wp2
  go_ret
  exact ⟨rfl, rfl⟩
theorem line_43 (w : World) : Calls Tryz.prog 70 #[.string ⟨#[43]⟩] w fun e w' => e = .returned (.int .i64 (2)) ∧ w' = w := by
  have e61 : ((⟨#[43]⟩ : ByteArray).toList == [61]) = false := by kernel_rfl
  have e60_62 : ((⟨#[43]⟩ : ByteArray).toList == [60, 62]) = false := by kernel_rfl
  have e60 : ((⟨#[43]⟩ : ByteArray).toList == [60]) = false := by kernel_rfl
  have e62 : ((⟨#[43]⟩ : ByteArray).toList == [62]) = false := by kernel_rfl
  have e60_61 : ((⟨#[43]⟩ : ByteArray).toList == [60, 61]) = false := by kernel_rfl
  have e62_61 : ((⟨#[43]⟩ : ByteArray).toList == [62, 61]) = false := by kernel_rfl
  have e38 : ((⟨#[43]⟩ : ByteArray).toList == [38]) = false := by kernel_rfl
  have e43 : ((⟨#[43]⟩ : ByteArray).toList == [43]) = true := by kernel_rfl
  have e45 : ((⟨#[43]⟩ : ByteArray).toList == [45]) = false := by kernel_rfl
  have e42 : ((⟨#[43]⟩ : ByteArray).toList == [42]) = false := by kernel_rfl
  have e47 : ((⟨#[43]⟩ : ByteArray).toList == [47]) = false := by kernel_rfl
  go_enter Tryz.func70, Tryz.ntmps70
  go_wp2
  go_ret
  exact ⟨rfl, rfl⟩
theorem line_45 (w : World) : Calls Tryz.prog 70 #[.string ⟨#[45]⟩] w fun e w' => e = .returned (.int .i64 (2)) ∧ w' = w := by
  have e61 : ((⟨#[45]⟩ : ByteArray).toList == [61]) = false := by kernel_rfl
  have e60_62 : ((⟨#[45]⟩ : ByteArray).toList == [60, 62]) = false := by kernel_rfl
  have e60 : ((⟨#[45]⟩ : ByteArray).toList == [60]) = false := by kernel_rfl
  have e62 : ((⟨#[45]⟩ : ByteArray).toList == [62]) = false := by kernel_rfl
  have e60_61 : ((⟨#[45]⟩ : ByteArray).toList == [60, 61]) = false := by kernel_rfl
  have e62_61 : ((⟨#[45]⟩ : ByteArray).toList == [62, 61]) = false := by kernel_rfl
  have e38 : ((⟨#[45]⟩ : ByteArray).toList == [38]) = false := by kernel_rfl
  have e43 : ((⟨#[45]⟩ : ByteArray).toList == [43]) = false := by kernel_rfl
  have e45 : ((⟨#[45]⟩ : ByteArray).toList == [45]) = true := by kernel_rfl
  have e42 : ((⟨#[45]⟩ : ByteArray).toList == [42]) = false := by kernel_rfl
  have e47 : ((⟨#[45]⟩ : ByteArray).toList == [47]) = false := by kernel_rfl
  go_enter Tryz.func70, Tryz.ntmps70
  go_wp2
  go_ret
  exact ⟨rfl, rfl⟩
theorem line_42 (w : World) : Calls Tryz.prog 70 #[.string ⟨#[42]⟩] w fun e w' => e = .returned (.int .i64 (3)) ∧ w' = w := by
  have e61 : ((⟨#[42]⟩ : ByteArray).toList == [61]) = false := by kernel_rfl
  have e60_62 : ((⟨#[42]⟩ : ByteArray).toList == [60, 62]) = false := by kernel_rfl
  have e60 : ((⟨#[42]⟩ : ByteArray).toList == [60]) = false := by kernel_rfl
  have e62 : ((⟨#[42]⟩ : ByteArray).toList == [62]) = false := by kernel_rfl
  have e60_61 : ((⟨#[42]⟩ : ByteArray).toList == [60, 61]) = false := by kernel_rfl
  have e62_61 : ((⟨#[42]⟩ : ByteArray).toList == [62, 61]) = false := by kernel_rfl
  have e38 : ((⟨#[42]⟩ : ByteArray).toList == [38]) = false := by kernel_rfl
  have e43 : ((⟨#[42]⟩ : ByteArray).toList == [43]) = false := by kernel_rfl
  have e45 : ((⟨#[42]⟩ : ByteArray).toList == [45]) = false := by kernel_rfl
  have e42 : ((⟨#[42]⟩ : ByteArray).toList == [42]) = true := by kernel_rfl
  have e47 : ((⟨#[42]⟩ : ByteArray).toList == [47]) = false := by kernel_rfl
  go_enter Tryz.func70, Tryz.ntmps70
  go_wp2
  go_ret
  exact ⟨rfl, rfl⟩
theorem line_47 (w : World) : Calls Tryz.prog 70 #[.string ⟨#[47]⟩] w fun e w' => e = .returned (.int .i64 (3)) ∧ w' = w := by
  have e61 : ((⟨#[47]⟩ : ByteArray).toList == [61]) = false := by kernel_rfl
  have e60_62 : ((⟨#[47]⟩ : ByteArray).toList == [60, 62]) = false := by kernel_rfl
  have e60 : ((⟨#[47]⟩ : ByteArray).toList == [60]) = false := by kernel_rfl
  have e62 : ((⟨#[47]⟩ : ByteArray).toList == [62]) = false := by kernel_rfl
  have e60_61 : ((⟨#[47]⟩ : ByteArray).toList == [60, 61]) = false := by kernel_rfl
  have e62_61 : ((⟨#[47]⟩ : ByteArray).toList == [62, 61]) = false := by kernel_rfl
  have e38 : ((⟨#[47]⟩ : ByteArray).toList == [38]) = false := by kernel_rfl
  have e43 : ((⟨#[47]⟩ : ByteArray).toList == [43]) = false := by kernel_rfl
  have e45 : ((⟨#[47]⟩ : ByteArray).toList == [45]) = false := by kernel_rfl
  have e42 : ((⟨#[47]⟩ : ByteArray).toList == [42]) = false := by kernel_rfl
  have e47 : ((⟨#[47]⟩ : ByteArray).toList == [47]) = true := by kernel_rfl
  go_enter Tryz.func70, Tryz.ntmps70
  go_wp2
  go_ret
  exact ⟨rfl, rfl⟩
theorem line_none (s : ByteArray) (w : World) (e61 : (s.toList == [61]) = false) (e60_62 : (s.toList == [60, 62]) = false) (e60 : (s.toList == [60]) = false) (e62 : (s.toList == [62]) = false) (e60_61 : (s.toList == [60, 61]) = false) (e62_61 : (s.toList == [62, 61]) = false) (e38 : (s.toList == [38]) = false) (e43 : (s.toList == [43]) = false) (e45 : (s.toList == [45]) = false) (e42 : (s.toList == [42]) = false) (e47 : (s.toList == [47]) = false) : Calls Tryz.prog 70 #[.string s] w fun e w' => e = .returned (.int .i64 (-1)) ∧ w' = w := by
  go_enter Tryz.func70, Tryz.ntmps70
  go_wp2
  go_ret
  exact ⟨rfl, rfl⟩
theorem line_any (s : ByteArray) (w : World) : Calls Tryz.prog 70 #[.string s] w fun e w' => e = .returned (.int .i64 ((bindN s.data.toList : Int) - 1)) ∧ w' = w := by
  by_cases h61 : s.data.toList = [61]
  · rw [h61, show ((bindN [61] : Int) - 1) = 0 by decide, str_of h61]; exact line_61 w
  by_cases h60_62 : s.data.toList = [60, 62]
  · rw [h60_62, show ((bindN [60, 62] : Int) - 1) = 0 by decide, str_of h60_62]; exact line_60_62 w
  by_cases h60 : s.data.toList = [60]
  · rw [h60, show ((bindN [60] : Int) - 1) = 0 by decide, str_of h60]; exact line_60 w
  by_cases h62 : s.data.toList = [62]
  · rw [h62, show ((bindN [62] : Int) - 1) = 0 by decide, str_of h62]; exact line_62 w
  by_cases h60_61 : s.data.toList = [60, 61]
  · rw [h60_61, show ((bindN [60, 61] : Int) - 1) = 0 by decide, str_of h60_61]; exact line_60_61 w
  by_cases h62_61 : s.data.toList = [62, 61]
  · rw [h62_61, show ((bindN [62, 61] : Int) - 1) = 0 by decide, str_of h62_61]; exact line_62_61 w
  by_cases h38 : s.data.toList = [38]
  · rw [h38, show ((bindN [38] : Int) - 1) = 1 by decide, str_of h38]; exact line_38 w
  by_cases h43 : s.data.toList = [43]
  · rw [h43, show ((bindN [43] : Int) - 1) = 2 by decide, str_of h43]; exact line_43 w
  by_cases h45 : s.data.toList = [45]
  · rw [h45, show ((bindN [45] : Int) - 1) = 2 by decide, str_of h45]; exact line_45 w
  by_cases h42 : s.data.toList = [42]
  · rw [h42, show ((bindN [42] : Int) - 1) = 3 by decide, str_of h42]; exact line_42 w
  by_cases h47 : s.data.toList = [47]
  · rw [h47, show ((bindN [47] : Int) - 1) = 3 by decide, str_of h47]; exact line_47 w
  have hb : bindN s.data.toList = 0 := by simp [bindN, h61, h60_62, h60, h62, h60_61, h62_61, h38, h43, h45, h42, h47]
  rw [hb, show ((0 : Nat) : Int) - 1 = -1 by decide]
  exact line_none s w (by rw [toList_data]; simpa using h61) (by rw [toList_data]; simpa using h60_62) (by rw [toList_data]; simpa using h60) (by rw [toList_data]; simpa using h62) (by rw [toList_data]; simpa using h60_61) (by rw [toList_data]; simpa using h62_61) (by rw [toList_data]; simpa using h38) (by rw [toList_data]; simpa using h43) (by rw [toList_data]; simpa using h45) (by rw [toList_data]; simpa using h42) (by rw [toList_data]; simpa using h47)
end
section
open Go.RowKit
/-- A block's cells written from a place on. -/
theorem setCell_row {w : World} {g : Nat} {cs : List Value} {t : TypeId} {fz : Nat × Nat} (hg : w.heap[g]? = some (.cells cs.toArray t fz)) (o : Nat) (v : Value) : w.setCell ⟨g, o, none⟩ v = w.setRow g (cs.set o v).toArray := by
  have h : w.heap.modify g (fun
      | .cells c elem frozen => .cells (if (none : Option Nat).isSome then c else c.setIfInBounds o v) elem frozen
      | o => o) = w.heap.modify g (fun
      | .cells _ elem frozen => .cells (cs.set o v).toArray elem frozen
      | o => o) := by
    apply Array.ext_getElem?
    intro i
    rw [Array.getElem?_modify, Array.getElem?_modify]
    split
    · rename_i e
      subst e
      rw [hg]
      simp
    · rfl
  unfold World.setCell World.setRow
  simp only
  exact congrArg (fun H => { w with heap := H }) h
theorem setCells_row (g : Nat) (t : TypeId) (fz : Nat × Nat) : ∀ (vs : List Value) (o : Nat) (cs : List Value) (w : World), w.heap[g]? = some (.cells cs.toArray t fz) → o + vs.length ≤ cs.length → w.setCells g o vs = w.setRow g (cs.take o ++ vs ++ cs.drop (o + vs.length)).toArray
  | [], o, cs, w, hg, _ => by
    rw [World.setCells, show cs.take o ++ [] ++ cs.drop (o + ([] : List Value).length) = cs by simp]
    exact (Go.setRow_self w g _ t fz hg).symm
  | v :: r, o, cs, w, hg, hl => by
    simp only [List.length_cons] at hl
    have hs : (w.setRow g (cs.set o v).toArray).heap[g]? = some (.cells (cs.set o v).toArray t fz) := Go.setRow_heap w g _ _ t fz hg
    rw [World.setCells, setCell_row hg, setCells_row g t fz r (o + 1) (cs.set o v) _ hs (by simp; omega), Go.setRow_setRow]
    have e1 : (cs.set o v).take (o + 1) = cs.take o ++ [v] := by
      rw [List.take_add_one, List.take_set_of_le (Nat.le_refl _), List.getElem?_set_self (by omega)]; rfl
    have e2 : (cs.set o v).drop (o + 1 + r.length) = cs.drop (o + 1 + r.length) := List.drop_set_of_lt (by omega)
    rw [e1, e2, List.length_cons, show o + (r.length + 1) = o + 1 + r.length by omega]
    simp
/-- A reading's cells. -/
def rdC (h : Hd) (v : Value) (p : Nat) (b : Bool) : List Value := hdC h v ++ [.int .i64 (p : Int), .bool b]
theorem rdC_len (h : Hd) (v : Value) (p : Nat) (b : Bool) : (rdC h v p b).length = 18 := rfl
theorem rdC_one (h : Hd) {v : Value} (hv : v.oneCell' = true) (p : Nat) (b : Bool) : (rdC h v p b).toArray.all (·.oneCell') = true := by
  have := hdC_one h hv
  rw [Array.all_eq_true_iff_forall_mem] at this ⊢
  intro u hu
  simp only [rdC, List.mem_toArray, List.mem_append, List.mem_cons, List.not_mem_nil, or_false] at hu
  rcases hu with hu | rfl | rfl
  · exact this u (by simpa using hu)
  · rfl
  · rfl
def BoxR (w : World) (b : Nat) (cs : List Value) : Prop := w.heap[b]? = some (.cells cs.toArray 111 (0, 0))
theorem BoxR.lt {w : World} {b : Nat} {cs : List Value} (h : BoxR w b cs) : b < w.heap.size := (Array.getElem?_eq_some_iff.1 h).1
theorem BoxR.below {w w' : World} {b n : Nat} {cs : List Value} (h : BoxR w b cs) (k : Below n w w') (hn : b < n) : BoxR w' b cs := by
  unfold BoxR; rw [k.block b hn]; exact h
theorem BoxR.alloc {w : World} {b : Nat} {cs : List Value} (h : BoxR w b cs) (o : Obj) : BoxR (w.alloc o) b cs := h.below ((Below.refl _ _).alloc (Nat.le_refl _) o) h.lt
theorem BoxR.new (w : World) (cs : List Value) : BoxR (w.alloc (.cells cs.toArray 111)) w.heap.size cs := heap_alloc_new w _
theorem BoxR.drew {w : World} {b : Nat} {cs : List Value} (h : BoxR w b cs) : BoxR w.drew b cs := h
theorem BoxR.drewN {w : World} {b : Nat} {cs : List Value} (h : BoxR w b cs) (n : Nat) : BoxR (w.drewN n) b cs := h.below (below_drewN0 w n) h.lt
theorem BoxR.set {w : World} {b : Nat} {cs : List Value} (h : BoxR w b cs) (cs' : List Value) : BoxR (w.setRow b cs'.toArray) b cs' := Go.setRow_heap w b _ _ _ _ h
theorem BoxR.other {w : World} {b g : Nat} {cs : List Value} (h : BoxR w b cs) (hb : b ≠ g) (cs' : Array Value) : BoxR (w.setRow g cs') b cs := by
  unfold BoxR; rw [setRow_heap w g b cs' hb]; exact h
theorem BoxR.at {w : World} {b : Nat} {h : Hd} {v : Value} {p : Nat} {x : Bool} (k : BoxR w b (rdC h v p x)) : w.cell? ⟨b, 16, none⟩ = some (.int .i64 (p : Int)) := by
  rw [cell_of_row w b 16 _ _ _ k]; rfl
theorem BoxR.bad {w : World} {b : Nat} {h : Hd} {v : Value} {p : Nat} {x : Bool} (k : BoxR w b (rdC h v p x)) : w.cell? ⟨b, 17, none⟩ = some (.bool x) := by
  rw [cell_of_row w b 17 _ _ _ k]; rfl
theorem BoxR.node {w : World} {b : Nat} {h : Hd} {v : Value} {p : Nat} {x : Bool} (k : BoxR w b (rdC h v p x)) : ∀ j, j < 16 → w.cell? ⟨b, 0 + j, none⟩ = (hdC h v)[j]? := fun j hj => by
  rw [Nat.zero_add, cell_of_row w b j _ _ _ k, List.getElem?_toArray, rdC, List.getElem?_append_left (by rw [hdC_len]; exact hj)]
theorem BoxR.free {w : World} {b : Nat} {cs : List Value} (k : BoxR w b cs) (j : Nat) : w.frozen? ⟨b, j, none⟩ = false := by
  unfold World.frozen?
  simp only [show w.heap[b]? = _ from k]
  simp
theorem sizeR : (Tryz.prog.info? 111).map (·.size) = some 18 := by kernel_rfl
/-- A whole reading read, or written; its node read, or written. -/
theorem wpl_loadR {ops : Array Oper} {rest : List Oper} {o : Oper} {a : Act} {w : World} {Q : Exit → Act → World → Prop} (hgd : o.guard = none) (x : Operand) (ho : o.op = .load 111 x)
    (g : Nat) (hx : a.eval x = .pointer (some ⟨g, 0, none⟩)) {h : Hd} {v : Value} {p : Nat} {b : Bool} (hb : BoxR w g (rdC h v p b))
    (hk : wpList Tryz.prog ops Q rest (a.put o.dst (.agg (rdC h v p b).toArray)) w) : wpList Tryz.prog ops Q (o :: rest) a w :=
  wpList_load_row hgd 111 x ho g hx 111 _ (0, 0) _ hb Tryz.underlying111 rfl (by rw [sizeR]; rfl) hk
theorem wpl_storeR {ops : Array Oper} {rest : List Oper} {o : Oper} {a : Act} {w : World} {Q : Exit → Act → World → Prop} (hgd : o.guard = none) (x y : Operand) (ho : o.op = .store 111 x y)
    (g : Nat) (hx : a.eval x = .pointer (some ⟨g, 0, none⟩)) {h : Hd} {pp : Option Addr} {n cap : Nat} {p : Nat} {b : Bool} (hy : a.eval y = .agg (rdC h (.slice pp n cap) p b).toArray) {cs : List Value} (hb : BoxR w g cs) (hl : cs.length = 18)
    (hk : wpList Tryz.prog ops Q rest (a.put o.dst undef) (w.setRow g (rdC h (.slice pp n cap) p b).toArray)) : wpList Tryz.prog ops Q (o :: rest) a w :=
  wpList_store_row hgd 111 x y ho g _ hx hy 111 _ hb (by rw [sizeR]; rfl) (by simp [hl, rdC_len]) (rdC_one h rfl p b) hk
/-- Into a block that has just been made. -/
theorem wpl_newR {ops : Array Oper} {rest : List Oper} {o : Oper} {a : Act} {W w : World} {Q : Exit → Act → World → Prop} (hgd : o.guard = none) (x y : Operand) (ho : o.op = .store 111 x y)
    (hW : W = w.alloc (.cells (rdC zh (.slice none 0 0) 0 false).toArray 111)) (hx : a.eval x = .pointer (some ⟨w.heap.size, 0, none⟩)) {h : Hd} {pp : Option Addr} {n cap : Nat} {p : Nat} {b : Bool} (hy : a.eval y = .agg (rdC h (.slice pp n cap) p b).toArray)
    (hk : wpList Tryz.prog ops Q rest (a.put o.dst undef) (w.alloc (.cells (rdC h (.slice pp n cap) p b).toArray 111))) : wpList Tryz.prog ops Q (o :: rest) a W := by
  subst hW
  refine wpl_storeR hgd x y ho w.heap.size hx hy (BoxR.new w _) rfl ?_
  rw [World.setRow_alloc_new]
  exact hk
theorem wpl_loadRN {ops : Array Oper} {rest : List Oper} {o : Oper} {a : Act} {w : World} {Q : Exit → Act → World → Prop} (hgd : o.guard = none) (x : Operand) (ho : o.op = .load 68 x)
    (g : Nat) (hx : a.eval x = .pointer (some ⟨g, 0, none⟩)) {h : Hd} {v : Value} {p : Nat} {b : Bool} (hb : BoxR w g (rdC h v p b))
    (hk : wpList Tryz.prog ops Q rest (a.put o.dst (.agg (hdC h v).toArray)) w) : wpList Tryz.prog ops Q (o :: rest) a w :=
  wpl_loadAt hgd x ho g 0 hx hb.node hk
theorem wpl_storeRN {ops : Array Oper} {rest : List Oper} {o : Oper} {a : Act} {w : World} {Q : Exit → Act → World → Prop} (hgd : o.guard = none) (x y : Operand) (ho : o.op = .store 68 x y)
    (g : Nat) (hx : a.eval x = .pointer (some ⟨g, 0, none⟩)) {h : Hd} {pp : Option Addr} {n cap : Nat} (hy : a.eval y = .agg (hdC h (.slice pp n cap)).toArray) {h0 : Hd} {v0 : Value} {p : Nat} {b : Bool} (hb : BoxR w g (rdC h0 v0 p b))
    (hk : wpList Tryz.prog ops Q rest (a.put o.dst undef) (w.setRow g (rdC h (.slice pp n cap) p b).toArray)) : wpList Tryz.prog ops Q (o :: rest) a w := by
  have ht : w.there g 0 (hdC h (.slice pp n cap)).toArray.size := fun j hj => by
    have hj' : j < 16 := hj
    refine ⟨?_, hb.free _⟩
    rw [hb.node j hj', List.getElem?_eq_getElem (by rw [hdC_len]; exact hj')]
    rfl
  refine wpList_store_mid hgd 68 x y ho g 0 _ hx hy ht (by rw [sizeNode]; rfl) (hdC_one h rfl) ?_
  rw [setCells_row g _ _ _ 0 _ _ hb (by show 0 + 16 ≤ 18; omega)]
  exact hk
/-- What is handed back. -/
theorem BoxR.ret {fn : Func} {p : Tmp} (hf : fn.results = #[.cell p 111]) {tmps : Array Value} {w : World} {b : Nat} {h : Hd} {v : Value} {q : Nat} {x : Bool} (k : BoxR w b (rdC h v q x)) (hp : tmps.getD p undef = .pointer (some ⟨b, 0, none⟩)) : (results fn tmps).run Tryz.prog w = .ok (.agg (rdC h v q x).toArray) w :=
  results_cell_row hf tmps w b 111 (rdC h v q x).toArray (0, 0) _ hp k Tryz.underlying111 rfl (by rw [sizeR]; rfl)
/-- Readings made. -/
theorem run_rd (h : Hd) (a : Option Addr) (n cap : Nat) (p : Nat) (w : World) : (Instr.build 111 #[(0, .agg (hdC h (.slice a n cap)).toArray), (1, .int .i64 (p : Int))]).run Tryz.prog w = .ok (.agg (rdC h (.slice a n cap) p false).toArray) w := run_build w _ _ _ (by kernel_rfl)
theorem run_rdAt (p : Nat) (w : World) : (Instr.build 111 #[(1, .int .i64 (p : Int))]).run Tryz.prog w = .ok (.agg (rdC zh (.slice none 0 0) p false).toArray) w := run_build w _ _ _ (by kernel_rfl)
theorem run_rdBad (p : Nat) (w : World) : (Instr.build 111 #[(1, .int .i64 (p : Int)), (2, .bool true)]).run Tryz.prog w = .ok (.agg (rdC zh (.slice none 0 0) p true).toArray) w := run_build w _ _ _ (by kernel_rfl)
theorem run_call2 (l : List UInt8) (a : Option Addr) (n cap : Nat) (w : World) : (Instr.build 68 #[(0, .int .i64 6), (4, .string ⟨l.toArray⟩), (5, .slice a n cap)]).run Tryz.prog w = .ok (.agg (hdC (callH l) (.slice a n cap)).toArray) w := run_build w _ _ _ (by kernel_rfl)
/-- A row of tokens that is read. -/
def TkAt (w : World) (g o cap : Nat) (ts : List Tok) : Prop :=
  ts.length ≤ cap ∧ cap ≤ maxLen ∧ g < w.heap.size ∧ ∀ i t, ts[i]? = some t → ∀ j, j < 12 → w.cell? ⟨g, o + i * 12 + j, none⟩ = (tokC t)[j]?
theorem TkAt.below {w w' : World} {g o cap : Nat} {ts : List Tok} (h : TkAt w g o cap ts) (hb : Below w.heap.size w w') : TkAt w' g o cap ts := by
  obtain ⟨h1, h2, h3, h4⟩ := h
  exact ⟨h1, h2, Nat.lt_of_lt_of_le h3 hb.size, fun i t hi j hj => by rw [hb.cell (p := ⟨g, o + i * 12 + j, none⟩) h3]; exact h4 i t hi j hj⟩
theorem TkAt.to {n : Nat} {w w' : World} {g o cap : Nat} {ts : List Tok} (h : TkAt w g o cap ts) (hb : Below n w w') (hg : g < n) : TkAt w' g o cap ts := by
  obtain ⟨h1, h2, h3, h4⟩ := h
  exact ⟨h1, h2, Nat.lt_of_lt_of_le h3 hb.size, fun i t hi j hj => by rw [hb.cell (p := ⟨g, o + i * 12 + j, none⟩) hg]; exact h4 i t hi j hj⟩
theorem tk_of_rd {w : World} {v : Value} {ts : List Tok} (h : Rd w v ts) (hn : ts ≠ []) : ∃ g o cap, v = .slice (some ⟨g, o, none⟩) ts.length cap ∧ TkAt w g o cap ts := by
  rcases h with ⟨_, h⟩ | ⟨g, o, cap, h1, h2, h3, h4, h5⟩
  · exact absurd h hn
  · exact ⟨g, o, cap, h1, h2, h3, h4, fun i t hi j hj => by rw [show o + i * 12 + j = o + 12 * i + j by omega]; exact h5 i t hi j hj⟩
theorem hd_drop {ts : List Tok} {i : Nat} (h : i < ts.length) : ts[i]? = some (hd (ts.drop i)) := by
  rw [List.drop_eq_getElem_cons h, List.getElem?_eq_getElem h]; rfl
theorem ris_any (g o cap : Nat) (ts : List Tok) (i : Nat) (s : ByteArray) (w : World) (h : TkAt w g o cap ts) (hi : i < ts.length) :
    Calls Tryz.prog 69 #[.slice (some ⟨g, o, none⟩) ts.length cap, .int .i64 (i : Int), .string s] w fun e w' => e = .returned (.bool (atB (ts.drop i) s.data.toList)) ∧ w' = w := by
  obtain ⟨h1, h2, h3, h4⟩ := h
  have e := hd_drop hi
  have hA : atB (ts.drop i) s.data.toList = (decide ((hd (ts.drop i)).kind = 4) && ((hd (ts.drop i)).txt == s.toList)) := by rw [toList_data, atB]; congr 1; rw [Bool.eq_iff_iff]; simp
  generalize hd (ts.drop i) = t at *
  have c0 : w.cell? ⟨g, o + i * 12, none⟩ = some (.int .i64 t.kind) := h4 i t e 0 (by omega)
  have c10 : w.cell? ⟨g, o + i * 12 + 10, none⟩ = some (.string ⟨t.txt.toArray⟩) := h4 i t e 10 (by omega)
  clear h4 e
  unfold maxLen at h2
  have HA := hide hA
  clear hA
  by_cases hk : t.kind = 4
  · go_enter Tryz.func69, Tryz.ntmps69
    go_wp2
    go_ret
    exact ⟨by rw [HA.out]; simp [hk], rfl⟩
  · go_enter Tryz.func69, Tryz.ntmps69
    go_wp2
    go_ret
    exact ⟨by rw [HA.out]; simp [hk], rfl⟩
/-- What the answer's reader tells, and what becomes of the world. -/
def ToldR (ts : List Tok) (w : World) (r : Rs) (e : Ending) (w' : World) : Prop :=
  match r with
  | .ok h k l => ∃ a n cap p, e = .returned (.agg (rdC h (.slice a n cap) p false).toArray) ∧ Kv w' (New w w') (.slice a n cap) k ∧ Below w.heap.size w w' ∧ ts.drop p = l ∧ p < ts.length
  | .bad l => ∃ h a n cap p, e = .returned (.agg (rdC h (.slice a n cap) p true).toArray) ∧ Below w.heap.size w w' ∧ ts.drop p = l ∧ p < ts.length
end
section
open Go.RowKit
theorem bar_below {w w1 W : World} (h1 : Below w.heap.size w w1) (h2 : Bar w1.heap.size w1 W) : Below w.heap.size w W := h1.trans ((h2.below (Nat.le_refl _)).mono h1.size)
end
section
open Go.RowKit
theorem below_alloc' {w w' : World} {o : Obj} (h : Below (w.alloc o).heap.size (w.alloc o) w') : Below w.heap.size w w' := by
  have h0 : Below w.heap.size w (w.alloc o) := (Below.refl _ _).alloc (Nat.le_refl _) o
  exact h0.trans (h.mono (by simp))
end
section
open Go.RowKit
/-- A node lies in a block below B. -/
def Lies (w : World) (B : Nat) (h : Hd) (v : Value) (b o : Nat) : Prop := b < B ∧ ∀ j, j < 16 → w.cell? ⟨b, o + j, none⟩ = (hdC h v)[j]?
theorem Lies.below {w w' : World} {B : Nat} {h : Hd} {v : Value} {b o : Nat} (k : Lies w B h v b o) (hb : Below B w w') : Lies w' B h v b o :=
  ⟨k.1, fun j hj => by rw [hb.cell (p := ⟨b, o + j, none⟩) k.1]; exact k.2 j hj⟩
theorem below_drew0 (w : World) : Below w.heap.size w w.drew := ((Bar.refl w.heap.size w).drew).below (Nat.le_refl _)
end
section
open Go.RowKit
/-- Kids counted, behind so many, so deep. -/
def cntF : Fo → Nat → Nat → Nat → Nat → Nat × Nat
  | .nil, _, _, a, u => (a, u)
  | .cons _ k r, m, d, a, u =>
    if a ≤ m then cntF r m d (a + (if d - 1 = 0 ∨ m - a = 0 then 1 else (cntF k (m - a) (d - 1) 1 0).1)) (max u (if d - 1 = 0 ∨ m - a = 0 then 1 else 1 + (cntF k (m - a) (d - 1) 1 0).2))
    else (a, u)
def cntN (k : Fo) (m d : Nat) : Nat × Nat := if d = 0 ∨ m = 0 then (1, 1) else ((cntF k m d 1 0).1, 1 + (cntF k m d 1 0).2)
theorem cntN_no {k : Fo} {m d : Nat} (h : d = 0 ∨ m = 0) : cntN k m d = (1, 1) := by unfold cntN; rw [if_pos h]
theorem cntN_yes {k : Fo} {m d : Nat} (h : ¬ (d = 0 ∨ m = 0)) : cntN k m d = ((cntF k m d 1 0).1, 1 + (cntF k m d 1 0).2) := by unfold cntN; rw [if_neg h]
theorem cntF_cons (h : Hd) (k r : Fo) (m d a u : Nat) : cntF (.cons h k r) m d a u = if a ≤ m then cntF r m d (a + (cntN k (m - a) (d - 1)).1) (max u (cntN k (m - a) (d - 1)).2) else (a, u) := by
  rw [cntF]
  by_cases hx : d - 1 = 0 ∨ m - a = 0
  · rw [cntN_no hx, if_pos hx, if_pos hx]
  · rw [cntN_yes hx, if_neg hx, if_neg hx]
theorem cntF_ge : ∀ (F : Fo) (m d a u : Nat), a ≤ (cntF F m d a u).1 ∧ u ≤ (cntF F m d a u).2
  | .nil, _, _, _, _ => ⟨Nat.le_refl _, Nat.le_refl _⟩
  | .cons h k r, m, d, a, u => by
    rw [cntF_cons]
    split
    · have := cntF_ge r m d (a + (cntN k (m - a) (d - 1)).1) (max u (cntN k (m - a) (d - 1)).2)
      omega
    · exact ⟨Nat.le_refl _, Nat.le_refl _⟩
/-- Bounds. -/
theorem cntF_bd : ∀ (F : Fo) (m d a u : Nat), a ≤ m + 1 → u ≤ d → 1 ≤ d → (cntF F m d a u).1 ≤ m + 1 ∧ (cntF F m d a u).2 ≤ d
  | .nil, _, _, _, _, h1, h2, _ => ⟨h1, h2⟩
  | .cons h k r, m, d, a, u, h1, h2, h3 => by
    rw [cntF_cons]
    split
    · have hx : (cntN k (m - a) (d - 1)).1 ≤ m - a + 1 ∧ (cntN k (m - a) (d - 1)).2 ≤ d := by
        by_cases hc : d - 1 = 0 ∨ m - a = 0
        · rw [cntN_no hc]; exact ⟨by simp, by simp only; omega⟩
        · rw [cntN_yes hc]
          have := cntF_bd k (m - a) (d - 1) 1 0 (by omega) (by omega) (by omega)
          simp only
          omega
      exact cntF_bd r m d _ _ (by omega) (by omega) h3
    · exact ⟨h1, h2⟩
theorem cntN_bd (k : Fo) (m d : Nat) : (cntN k m d).1 ≤ m + 1 ∧ (cntN k m d).2 ≤ d + 1 := by
  by_cases hc : d = 0 ∨ m = 0
  · rw [cntN_no hc]; exact ⟨by simp, by simp⟩
  · rw [cntN_yes hc]
    have := cntF_bd k m d 1 0 (by omega) (by omega) (by omega)
    simp only
    omega
theorem cntF_exact : ∀ (F : Fo) (m d a u : Nat), (cntF F m d a u).1 ≤ m → 1 + (cntF F m d a u).2 ≤ d → cntF F m d a u = (a + F.many, max u F.deep)
  | .nil, _, _, _, _, _, _ => by simp [cntF, Fo.many, Fo.deep]
  | .cons h k r, m, d, a, u, h1, h2 => by
    rw [cntF_cons] at h1 h2 ⊢
    by_cases ha : a ≤ m
    · rw [if_pos ha] at h1 h2 ⊢
      have hr := cntF_exact r m d _ _ h1 h2
      have hg := cntF_ge r m d (a + (cntN k (m - a) (d - 1)).1) (max u (cntN k (m - a) (d - 1)).2)
      have g1 : a + (cntN k (m - a) (d - 1)).1 ≤ m := Nat.le_trans hg.1 h1
      have g2 : 1 + (cntN k (m - a) (d - 1)).2 ≤ d := by
        have := hg.2
        omega
      have hx : cntN k (m - a) (d - 1) = (k.many + 1, k.deep + 1) := by
        by_cases hc : d - 1 = 0 ∨ m - a = 0
        · rw [cntN_no hc] at g1 g2
          simp only at g1 g2
          exfalso; omega
        · rw [cntN_yes hc] at g1 g2
          simp only at g1 g2
          rw [cntN_yes hc, cntF_exact k (m - a) (d - 1) 1 0 (by omega) (by omega)]
          refine Prod.ext ?_ ?_ <;> simp only <;> omega
      rw [hr, hx, Fo.many, Fo.deep]
      refine Prod.ext ?_ ?_ <;> simp only <;> omega
    · rw [if_neg ha] at h1
      exact absurd h1 ha
theorem cntF_fits : ∀ (F : Fo) (m d a u : Nat), a + F.many ≤ m → 1 + max u F.deep ≤ d → cntF F m d a u = (a + F.many, max u F.deep)
  | .nil, _, _, _, _, _, _ => by simp [cntF, Fo.many, Fo.deep]
  | .cons h k r, m, d, a, u, h1, h2 => by
    rw [Fo.many] at h1
    rw [Fo.deep] at h2
    have hc : ¬ (d - 1 = 0 ∨ m - a = 0) := by omega
    rw [cntF_cons, if_pos (by omega), cntN_yes hc, cntF_fits k (m - a) (d - 1) 1 0 (by omega) (by omega), cntF_fits r m d _ _ (by simp only; omega) (by simp only; omega), Fo.many, Fo.deep]
    refine Prod.ext ?_ ?_ <;> simp only <;> omega
/-- What Depth tells. -/
def depthN (k : Fo) : Nat := if k.many + 1 ≤ 4096 ∧ k.deep + 1 ≤ 160 then k.deep + 1 else 0
theorem depth_is (k : Fo) : (if 4096 < (cntN k 4096 160).1 ∨ 160 < (cntN k 4096 160).2 then 0 else (cntN k 4096 160).2) = depthN k := by
  rw [cntN_yes (by omega)]
  unfold depthN
  by_cases h : k.many + 1 ≤ 4096 ∧ k.deep + 1 ≤ 160
  · rw [if_pos h, cntF_fits k 4096 160 1 0 (by omega) (by omega), if_neg (by simp only; omega)]
    simp only; omega
  · rw [if_neg h, if_pos]
    refine Classical.byContradiction fun hn => h ?_
    have e := cntF_exact k 4096 160 1 0 (by omega) (by omega)
    rw [e] at hn
    simp only at hn
    omega
/-- The contract of count, for kids. -/
def CountC (k : Fo) : Prop :=
  ∀ (D : Nat → Prop) (h : Hd) (v : Value) (w : World) (m d : Nat), m ≤ 4096 → d ≤ 160 → (∀ c, D c → c < w.heap.size) → Kv w D v k →
    Calls Tryz.prog 71 #[.agg (hdC h v).toArray, .int .i64 (m : Int), .int .i64 (d : Int)] w fun e w' => e = .returned (.tuple #[.int .i64 ((cntN k m d).1 : Int), .int .i64 ((cntN k m d).2 : Int)]) ∧ Below w.heap.size w w'
def CountA : Fo → Prop
  | .nil => True
  | .cons _ k r => CountC k ∧ CountA r
set_option maxRecDepth 100000 in
set_option maxHeartbeats 4000000 in
theorem count_step (k : Fo) (hA : CountA k) : CountC k := by
  intro D h v w m d hm hd hD hk
  obtain ⟨a, n, cap, rfl, hn, hk⟩ := hk
  subst hn
  by_cases hc : d = 0 ∨ m = 0
  · rw [cntN_no hc]
    by_cases hd0 : d = 0
    · have hd1 : (d : Int) ≤ 0 := by omega
      go_enter Tryz.func71, Tryz.ntmps71
      go_wp2
      go_ret2
      exact ⟨rfl, (Below.refl _ _).alloc (Nat.le_refl _) _⟩
    · have hd1 : ¬ (d : Int) ≤ 0 := by omega
      have hm1 : (m : Int) ≤ 0 := by omega
      go_enter Tryz.func71, Tryz.ntmps71
      go_wp2
      go_ret2
      exact ⟨rfl, (Below.refl _ _).alloc (Nat.le_refl _) _⟩
  · have hd1 : ¬ (d : Int) ≤ 0 := by omega
    have hm1 : ¬ (m : Int) ≤ 0 := by omega
    rw [cntN_yes hc]
    have p15 := (Box.new w (hdC h (.slice a k.len cap))).cell 15 (.slice a k.len cap) rfl
    have HK1 := hide hk
    have HA := hide hA
    have HB0 := hide ((Below.refl w.heap.size w).alloc (Nat.le_refl _) (.cells (hdC h (.slice a k.len cap)).toArray 68))
    clear hk hA
    go_enter Tryz.func71, Tryz.ntmps71
    go_wp2
    go_loopw [8, 9, 10] (fun ua uu ui wr => ∃ (i al un : Nat) (F : Fo), ua = .int .i64 (al : Int) ∧ uu = .int .i64 (un : Int) ∧ ui = .int .i64 (i : Int) ∧ i + F.len = k.len ∧ (F = .nil ∨ ∃ b' o', a = some ⟨b', o', none⟩ ∧ k.len ≤ cap ∧ cap ≤ maxLen ∧ Row w D F b' (o' + i * 16)) ∧ CountA F ∧ Below w.heap.size w wr ∧ w.heap.size < wr.heap.size ∧ wr.cell? ⟨w.heap.size, 15, none⟩ = some (.slice a k.len cap) ∧ al ≤ m + 1 ∧ un ≤ d ∧ cntF k m d 1 0 = cntF F m d al un) (fun _ _ ui _ => k.len - (intOf ui).toNat)
    case atStart =>
      refine ⟨0, 1, 0, k, rfl, rfl, rfl, by omega, ?_, HA.out, HB0.out, by simp, p15, by omega, by omega, rfl⟩
      rcases HK1.out with e | ⟨b', o', e1, e2, e3, e4⟩
      · exact .inl e
      · exact .inr ⟨b', o', e1, e2, e3, by simpa using e4⟩
    case round =>
      clear p15
      obtain ⟨i, al, un, F, rfl, rfl, rfl, hl, hF, hAF, hB, hz, c15, ha1, hu1, hq⟩ := hrel
      have HB := hide hB
      have HQ := hide hq
      have hsz := hB.size
      clear hB hq
      match F, hl, hF, hAF, HQ with
      | .nil, hl, _, _, HQ =>
        have hli : ¬ (i : Int) < (k.len : Int) := by simp [Fo.len] at hl; omega
        have hwu : IntKind.i64.wrap (1 + (un : Int)) = ((1 + un : Nat) : Int) := by rw [wrap_le (by omega) (by omega)]; omega
        go_wp2
        go_ret2
        refine ⟨?_, HB.out⟩
        rw [HQ.out]
        simp [cntF]
      | .cons h1 k1 r1, hl, hF, hAF, HQ =>
        have hli : (i : Int) < (k.len : Int) := by simp [Fo.len] at hl; omega
        have hl2 : i + 1 + r1.len = k.len := by simp [Fo.len] at hl; omega
        have hq1 := HQ.out
        rw [cntF_cons] at hq1
        by_cases hle : al ≤ m
        · have hle1 : (al : Int) ≤ (m : Int) := by omega
          rw [if_pos hle] at hq1
          obtain ⟨b1, o1, rfl, hcap1, hcap2, hrw⟩ : ∃ b' o', a = some ⟨b', o', none⟩ ∧ k.len ≤ cap ∧ cap ≤ maxLen ∧ Row w D (.cons h1 k1 r1) b' (o' + i * 16) := by
            rcases hF with e | e
            · cases e
            · exact e
          obtain ⟨d1, ⟨v1, x1, y1⟩, z1⟩ := row_cons.1 hrw
          have HR1 : Hid (Row w D r1 b1 (o1 + (i + 1) * 16)) := by rw [show o1 + (i + 1) * 16 = o1 + i * 16 + 16 by omega]; exact z1
          have HX : Hid (∀ j, j < 16 → wr.cell? ⟨b1, o1 + i * 16 + j, none⟩ = (hdC h1 v1)[j]?) := fun j hj => by rw [HB.out.cell (p := ⟨b1, o1 + i * 16 + j, none⟩) (hD b1 d1)]; exact x1 j hj
          obtain ⟨hA1, hA2⟩ := hAF
          have HA2 := hide hA2
          have hwm : IntKind.i64.wrap ((m : Int) - (al : Int)) = ((m - al : Nat) : Int) := by rw [wrap_le (by omega) (by omega)]; omega
          have hwd : IntKind.i64.wrap ((d : Int) - 1) = ((d - 1 : Nat) : Int) := by rw [wrap_le (by omega) (by omega)]; omega
          have HC : Hid (∀ W : World, Below w.heap.size w W → Calls Tryz.prog 71 #[.agg (hdC h1 v1).toArray, .int .i64 ((m - al : Nat) : Int), .int .i64 ((d - 1 : Nat) : Int)] W fun e w' => e = .returned (.tuple #[.int .i64 ((cntN k1 (m - al) (d - 1)).1 : Int), .int .i64 ((cntN k1 (m - al) (d - 1)).2 : Int)]) ∧ Below W.heap.size W w') := fun W hW =>
            hA1 D h1 v1 W (m - al) (d - 1) (by omega) (by omega) (fun c hc => Nat.lt_of_lt_of_le (hD c hc) hW.size) (kv_to y1 (fun b hb => ⟨hb, hW.block b (hD b hb)⟩))
          have hbd := cntN_bd k1 (m - al) (d - 1)
          have HQ2 := hide hq1
          have HM := hide hcap2
          unfold maxLen at hcap2
          clear hq1 HQ hrw d1 x1 y1 z1 hA1 hA2 hF hl
          have hma : m - al + al = m := by omega
          have hda : d - 1 + 1 = d := by omega
          generalize m - al = ma at *
          generalize d - 1 = da at *
          generalize cntN k1 ma da = X at *
          obtain ⟨x, y⟩ := X
          simp only at HC hbd HQ2
          have hwx : IntKind.i64.wrap ((al : Int) + (x : Int)) = ((al + x : Nat) : Int) := by rw [wrap_le (by omega) (by omega)]; omega
          have hmx : max (un : Int) (y : Int) = ((max un y : Nat) : Int) := by omega
          go_wp2_with (first | (with_reducible refine wpl_id ?_; refine wpl_loadAt rfl _ rfl _ _ rfl HX.out ?_) | (go_at_call 71; refine (HC.out _ HB.out).mono ?_; rintro e w1 ⟨rfl, hb1⟩; have HB1 := hide (bar_below HB.out (Bar.of hb1)); have HZ1 : Hid (wr.heap.size ≤ w1.heap.size) := hb1.size; have k15 : w1.cell? ⟨w.heap.size, 15, none⟩ = some (.slice (some ⟨b1, o1, none⟩) k.len cap) := by { rw [hb1.cell (p := ⟨w.heap.size, 15, none⟩) hz]; exact c15 }; clear hb1))
          go_roundw
          case rel => exact ⟨i + 1, al + x, max un y, r1, rfl, rfl, by go_num, by omega, .inr ⟨b1, o1, rfl, hcap1, HM.out, HR1.out⟩, HA2.out, HB1.out, by have := HZ1.out; omega, k15, by omega, by omega, HQ2.out⟩
          case measure => simp [intOf]; omega
        · have hle1 : ¬ (al : Int) ≤ (m : Int) := by omega
          rw [if_neg hle] at hq1
          have HQ3 := hide hq1
          clear hq1 HQ
          have hwu : IntKind.i64.wrap (1 + (un : Int)) = ((1 + un : Nat) : Int) := by rw [wrap_le (by omega) (by omega)]; omega
          go_wp2
          go_ret2
          refine ⟨?_, HB.out⟩
          rw [HQ3.out]
          simp
theorem count_all : ∀ (F : Fo), CountA F
  | .nil => trivial
  | .cons _ k r => ⟨count_step k (count_all k), count_all r⟩
set_option maxRecDepth 100000 in
set_option maxHeartbeats 2000000 in
theorem depth_any (D : Nat → Prop) (h : Hd) (k : Fo) (v : Value) (w : World) (hD : ∀ c, D c → c < w.heap.size) (hk : Kv w D v k) :
    Calls Tryz.prog 47 #[.agg (hdC h v).toArray] w fun e w' => e = .returned (.int .i64 (depthN k : Int)) ∧ Below w.heap.size w w' := by
  have HC : Hid (∀ W : World, Below w.heap.size w W → Calls Tryz.prog 71 #[.agg (hdC h v).toArray, .int .i64 4096, .int .i64 160] W fun e w' => e = .returned (.tuple #[.int .i64 ((cntN k 4096 160).1 : Int), .int .i64 ((cntN k 4096 160).2 : Int)]) ∧ Below W.heap.size W w') := fun W hW =>
    count_step k (count_all k) D h v W 4096 160 (by omega) (by omega) (fun c hc => Nat.lt_of_lt_of_le (hD c hc) hW.size) (kv_to hk (fun b hb => ⟨hb, hW.block b (hD b hb)⟩))
  have hd := depth_is k
  have hv : ∃ a n cap, v = .slice a n cap := by obtain ⟨a, n, cap, e, _⟩ := hk; exact ⟨a, n, cap, e⟩
  obtain ⟨a, n, cap, rfl⟩ := hv
  clear hD hk
  rw [← hd]
  clear hd
  generalize cntN k 4096 160 = X at *
  obtain ⟨x, y⟩ := X
  simp only at *
  by_cases h1 : 4096 < x
  · have h1' : (4096 : Int) < (x : Int) := by omega
    rw [if_pos (Or.inl h1)]
    go_enter Tryz.func47, Tryz.ntmps47
    go_wp2_with (first | (with_reducible refine wpl_id ?_; refine wpl_load rfl _ rfl _ rfl (by ((repeat' (first | with_reducible exact Hid.out (by assumption) | with_reducible apply Box.set | with_reducible exact Box.new _ _ | with_reducible apply Box.other | with_reducible apply Box.alloc | with_reducible apply Box.drew | with_reducible apply Box.drewN | omega)); done)) ?_) | (go_at_call 71; refine (HC.out _ ((Below.refl _ _).alloc (Nat.le_refl _) _)).mono ?_; rintro e w1 ⟨rfl, hb1⟩; have HB1 := hide (below_alloc' hb1); clear hb1))
    go_ret
    exact ⟨rfl, HB1.out⟩
  · have h1' : ¬ (4096 : Int) < (x : Int) := by omega
    by_cases h2 : 160 < y
    · have h2' : (160 : Int) < (y : Int) := by omega
      rw [if_pos (Or.inr h2)]
      go_enter Tryz.func47, Tryz.ntmps47
      go_wp2_with (first | (with_reducible refine wpl_id ?_; refine wpl_load rfl _ rfl _ rfl (by ((repeat' (first | with_reducible exact Hid.out (by assumption) | with_reducible apply Box.set | with_reducible exact Box.new _ _ | with_reducible apply Box.other | with_reducible apply Box.alloc | with_reducible apply Box.drew | with_reducible apply Box.drewN | omega)); done)) ?_) | (go_at_call 71; refine (HC.out _ ((Below.refl _ _).alloc (Nat.le_refl _) _)).mono ?_; rintro e w1 ⟨rfl, hb1⟩; have HB1 := hide (below_alloc' hb1); clear hb1))
      go_ret
      exact ⟨rfl, HB1.out⟩
    · have h2' : ¬ (160 : Int) < (y : Int) := by omega
      rw [if_neg (by omega)]
      go_enter Tryz.func47, Tryz.ntmps47
      go_wp2_with (first | (with_reducible refine wpl_id ?_; refine wpl_load rfl _ rfl _ rfl (by ((repeat' (first | with_reducible exact Hid.out (by assumption) | with_reducible apply Box.set | with_reducible exact Box.new _ _ | with_reducible apply Box.other | with_reducible apply Box.alloc | with_reducible apply Box.drew | with_reducible apply Box.drewN | omega)); done)) ?_) | (go_at_call 71; refine (HC.out _ ((Below.refl _ _).alloc (Nat.le_refl _) _)).mono ?_; rintro e w1 ⟨rfl, hb1⟩; have HB1 := hide (below_alloc' hb1); clear hb1))
      go_ret
      exact ⟨rfl, HB1.out⟩
end
end Go.Proofs.YtklldmidcmfbdaaGreatDoor
