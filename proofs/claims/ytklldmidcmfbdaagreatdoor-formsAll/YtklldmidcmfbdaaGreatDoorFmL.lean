/-
  A whole value read, within a fence.
-/
import Derived.Test.YtklldmidcmfbdaaGreatDoorFmP
import Derived.OwnWalkIn
import Derived.Deep.MidRow
import Derived.RangeFuncNested
namespace Go.Proofs.YtklldmidcmfbdaaGreatDoor
open Go.RowKit
theorem wpin_load_mid {F : Fence} {n : Nat} {P : Program} {ops : Array Oper} {rest : List Oper} {op : Oper} {a : Act} {w : World} {Q : Exit → Act → World → Prop} (hgd : op.guard = none) (ty : TypeId) (x : Operand) (ho : op.op = .load ty x)
    (b o : Nat) (hx : a.eval x = .pointer (some ⟨b, o, none⟩)) (cs : List Value) (d : TypeDesc) (hc : w.rangeAt b o cs)
    (hu : P.underlying ty = some d) (hd : d.isRow = true) (hi : (P.info? ty).map (·.size) = some cs.length)
    (h : wpListIn F n P ops Q rest (a.put op.dst (.agg cs.toArray)) w) : wpListIn F n P ops Q (op :: rest) a w := by
  refine wpListIn_plain hgd fun K hK => ?_
  unfold Oper.wpIn
  refine ⟨by simp [Oper.about, ho], ?_⟩
  rw [Oper.semAt_plain F _ _ (by rw [ho]; intro c hc'; cases hc')]
  unfold execOp
  simp only [ho, hx, Instr.loadAt, Instr.sureAddr, Sem.run_bind, Sem.run_pure, Result.andThen_ok, run_loadVar_mid w b o ty cs d hc hu hd hi]
  exact hK _ _ h
theorem wpin_any {F : Fence} {n : Nat} {P : Program} {ops : Array Oper} {l : List Oper} {a : Act} {w : World} {Q : Exit → Act → World → Prop} (h : wpListIn F n P ops Q l a w) : wpListIn F n P ops Q l a w := h
def mkPt {w₀ : World} {D : Nat → Prop} (b o : Nat) (h : Hd) (k : Fo) (hx : Row w₀ D (.cons h k .nil) b o) : Pt w₀ D := ⟨((b, o), (h, k)), hx⟩
theorem gh_snoc {w₀ : World} {D : Nat → Prop} (q : List (Pt w₀ D)) (x : Pt w₀ D) : (q ++ [x]).map Pt.gh = q.map Pt.gh ++ [x.1.2] := by simp [Pt.gh]
/-- A node that was copied into a block of the call's own, where a range over its parts begins. -/
theorem node_loop {D : Nat → Prop} {h : Hd} {k : Fo} {v : Value} {w W0 : World} {R B : Nat} (hD : ∀ c, D c → c < w.heap.size) (hk : Kv w D v k) (hb : Below w.heap.size w W0) (hR : W0.heap[R]? = some (.cells (hdC h v).toArray 68 (0, 0))) (hB : B < W0.heap.size) (hne : R ≠ B) (hrow : rowAt W0 B ≠ some R) :
    Dk w.heap.size B (fun c => D c ∨ c = R) W0 W0 ∧ Row W0 (fun c => D c ∨ c = R) (.cons h k .nil) R 0 := by
  have hRl := (Array.getElem?_eq_some_iff.1 hR).1
  refine ⟨⟨fun _ _ => rfl, fun c hc => ?_, fun c hc => ?_, hB⟩, ?_⟩
  · rcases hc with hc | rfl
    · exact Nat.lt_of_lt_of_le (hD c hc) hb.size
    · exact hRl
  · rcases hc with hc | rfl
    · exact .inl (hD c hc)
    · exact .inr ⟨⟨_, hR, rfl⟩, hne, hrow⟩
  · exact node_at (pre := []) (rest := []) (by simpa using hR) rfl (.inr rfl) (kv_to hk (fun c hc => ⟨.inl hc, hb.block c (hD c hc)⟩)) trivial
theorem Dk.row {n₀ B : Nat} {D : Nat → Prop} {w₀ W : World} (h : Dk n₀ B D w₀ W) {F : Fo} {b o : Nat} (hr : Row w₀ D F b o) : Row W D F b o := row_to (fun c hc => ⟨hc, h.same c hc⟩) _ _ _ hr
end Go.Proofs.YtklldmidcmfbdaaGreatDoor
