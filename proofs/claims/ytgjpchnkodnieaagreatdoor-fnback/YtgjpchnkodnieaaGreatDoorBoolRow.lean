import Derived.Test.YtgjpchnkodnieaaGreatDoorMFit0
import Derived.Test.YtgjpchnkodnieaaGreatDoorMFit0
namespace Go.Proofs.YtgjpchnkodnieaaGreatDoor
open Go.RowKit

theorem info_boolT : (Tryz.prog.info? 4).map (fun i => (i.zero, i.size, i.bytes)) = some (some (.bool false), 1, 1) := by kernel_rfl

/-- Block g holds just the truths bs. -/
def BBlk (w : World) (g : Nat) (bs : List Bool) : Prop := w.heap[g]? = some (.cells (bs.map Value.bool).toArray 4 (0, 0))

theorem BBlk.lt {w : World} {g : Nat} {bs : List Bool} (h : BBlk w g bs) : g < w.heap.size := lt_of_block h
theorem BBlk.cell {w : World} {g : Nat} {bs : List Bool} (h : BBlk w g bs) {i : Nat} (hi : i < bs.length) : w.cell? ⟨g, i, none⟩ = some (.bool (bs.getD i false)) := by
  unfold BBlk at h
  simp [World.cell?, h, hi]
theorem BBlk.free {w : World} {g : Nat} {bs : List Bool} (h : BBlk w g bs) (i : Nat) : w.frozen? ⟨g, i, none⟩ = false := frozen_of_row w g i _ _ h
theorem BBlk.set {w : World} {g : Nat} {bs : List Bool} (h : BBlk w g bs) (i : Nat) (x : Bool) : BBlk (w.setCell ⟨g, i, none⟩ (.bool x)) g (bs.set i x) := by
  unfold BBlk at h ⊢
  rw [heap_setCell_same w g i _ _ _ h]
  simp [List.map_set]
theorem BBlk.other {w : World} {g : Nat} {bs : List Bool} (h : BBlk w g bs) {p : Addr} (hp : g ≠ p.block) (v : Value) : BBlk (w.setCell p v) g bs := (heap_setCell_other w p g v hp).trans h
theorem BBlk.drew {w : World} {g : Nat} {bs : List Bool} (h : BBlk w g bs) : BBlk w.drew g bs := h

theorem BBlk.made (w : World) (n g : Nat) (hg : g = w.heap.size) : BBlk (w.alloc (.cells (madeCells #[.bool false] n) 4)) g (List.replicate n false) := by
  subst hg
  show (w.heap.push _)[w.heap.size]? = _
  rw [madeList]
  simp
theorem BBlk.alloc {w : World} {g : Nat} {bs : List Bool} (h : BBlk w g bs) (o : Obj) : BBlk (w.alloc o) g bs := (Below.heap_alloc w o g h.lt).trans h

end Go.Proofs.YtgjpchnkodnieaaGreatDoor
