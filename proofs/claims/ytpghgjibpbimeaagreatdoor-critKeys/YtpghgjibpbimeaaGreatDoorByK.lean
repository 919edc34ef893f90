/-
  A row of bytes that grows by append, and the text of it.
-/
import Derived.Test.YtpghgjibpbimeaaGreatDoorKNum
import Derived.Laws.AppendOwn
import Derived.Laws.OwnMore
import Derived.Laws.IdiomStrings
import Derived.OwnWalk
namespace Go.Proofs.YtpghgjibpbimeaaGreatDoor
open Go.RowKit

theorem infoU8 : (Tryz.prog.info? 5).map (fun i => (i.zero, i.size, i.bytes)) = some (some (.int .u8 0), 1, 1) := by kernel_rfl
def byteV (c : UInt8) : Value := .int .u8 (c.toNat : Int)
theorem row_string {w : World} {base : Nat} {v : Value} {l : List UInt8} (h : w.ownsRow base 5 1 v l.length (l.map byteV)) : (convert 54 9 v).run Tryz.prog w = .ok (.string ⟨l.toArray⟩) w := by
  have h' := h
  obtain ⟨_, h1 | ⟨g, cap, cur, rfl, hb, hh, hc, _, _, _⟩⟩ := h
  · obtain ⟨rfl, hn⟩ := h1
    obtain rfl : l = [] := List.eq_nil_of_length_eq_zero hn
    rw [run_convert_bytes_string w 54 9 5 none 0 0 Tryz.underlying54 Tryz.underlying5 Tryz.underlying9]
    rfl
  · refine run_convert_bytes_back w 54 9 5 ⟨g, 0, none⟩ cap l Tryz.underlying54 Tryz.underlying5 Tryz.underlying9 (fun j hj => ?_)
    have := h'.cellAt (g := g) (cap := cap) j (by omega)
    have e : (⟨g, 0, none⟩ : Addr).add j = ⟨g, j, none⟩ := by
      by_cases h0 : j = 0
      · subst h0; simp [Addr.add]
      · simp [Addr.add, h0]
    rw [e, this, List.getElem?_map, List.getElem?_eq_getElem hj]
    rfl
theorem byte_step {w wr w1 : World} {n : Nat} {l : List UInt8} {x : UInt8} {v v' : Value} (o : Obj)
    (hnx : Below w.heap.size w wr) (hown : wr.ownsRow w.heap.size 5 1 v n (l.map byteV))
    (hown' : w1.ownsRow w.heap.size 5 1 v' (n + 1) (l.map byteV ++ [.int .u8 (x.toNat : Int)])) (hgrow : (wr.alloc o).grownBy w1 v.ownBlock) :
    w1.ownsRow w.heap.size 5 1 v' (n + 1) ((l ++ [x]).map byteV) ∧ Below w.heap.size w w1 := by
  refine ⟨by rw [List.map_append]; exact hown', ?_⟩
  refine (hnx.alloc hnx.size o).grown hgrow ?_ (fun j hj => (hown.lt j hj).1)
  have := hnx.size; simp; omega
end Go.Proofs.YtpghgjibpbimeaaGreatDoor
