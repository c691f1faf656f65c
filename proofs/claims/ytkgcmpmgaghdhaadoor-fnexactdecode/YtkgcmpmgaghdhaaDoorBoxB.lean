import Derived.Test.YtkgcmpmgaghdhaaDoorMFit0
import Derived.Test.YtkgcmpmgaghdhaaDoorMFit0
namespace Go.Proofs.YtkgcmpmgaghdhaaDoor
open Go.RowKit

/-- Block p holds a struct of an array. -/
def Box (w : World) (p : Nat) (c : Bool) (v1 v2 : Value) : Prop := w.heap[p]? = some (.cells #[.bool c, v1, v2] 26 (0, 0))

theorem Box.lt {w : World} {p : Nat} {c : Bool} {v1 v2 : Value} (h : Box w p c v1 v2) : p < w.heap.size := lt_of_block h

theorem Box.cells {w : World} {p : Nat} {c : Bool} {v1 v2 : Value} (h : Box w p c v1 v2) : w.cell? ⟨p, 0, none⟩ = some (.bool c) ∧ w.cell? ⟨p, 1, none⟩ = some v1 ∧ w.cell? ⟨p, 2, none⟩ = some v2 := by
  unfold Box at h
  simp [World.cell?, h]

theorem Box.below {w w' : World} {p B : Nat} {c : Bool} {v1 v2 : Value} (h : Box w p c v1 v2) (hB : w.heap.size ≤ B) (hb : Below B w w') : Box w' p c v1 v2 := (hb.block p (Nat.lt_of_lt_of_le h.lt hB)).trans h

theorem Box.but {S : Nat → Prop} {w w' : World} {p : Nat} {c : Bool} {v1 v2 : Value} (h : Box w p c v1 v2) (hb : But S w w') (hn : ¬ S p) : Box w' p c v1 v2 := (hb.block p h.lt hn).trans h

theorem Box.alloc {w : World} {p : Nat} {c : Bool} {v1 v2 : Value} (h : Box w p c v1 v2) (o : Obj) : Box (w.alloc o) p c v1 v2 := (Below.heap_alloc w o p h.lt).trans h

theorem Box.drew {w : World} {p : Nat} {c : Bool} {v1 v2 : Value} (h : Box w p c v1 v2) : Box w.drew p c v1 v2 := h

theorem Box.new (w : World) (c : Bool) (v1 v2 : Value) : Box (w.alloc (.cells #[.bool c, v1, v2] 26 (0, 0))) w.heap.size c v1 v2 := by
  show (w.heap.push _)[w.heap.size]? = _
  simp

end Go.Proofs.YtkgcmpmgaghdhaaDoor
