import Derived.Test.YtgjpchnkodnieaaGreatDoorImplInnC
import Derived.Test.YtgjpchnkodnieaaGreatDoorImplConcatO
namespace Go.Proofs.YtgjpchnkodnieaaGreatDoor
open Go.RowKit

/-- An empty axis' box. -/
def ZA (w : World) (p : Nat) : Prop := w.heap[p]? = some (.cells #[.int .i64 0, .int .i64 0, .int .i64 0, .slice none 0 0] 133 (0, 0))
theorem ZA.lt {w : World} {p : Nat} (h : ZA w p) : p < w.heap.size := lt_of_block h
theorem ZA.new' {w : World} {p : Nat} (h : p = w.heap.size) : ZA (w.alloc (.cells #[.int .i64 0, .int .i64 0, .int .i64 0, .slice none 0 0] 133)) p := by subst h; exact heap_alloc_last w _
theorem ZA.drew {w : World} {p : Nat} (h : ZA w p) : ZA w.drew p := h
theorem ZA.alloc {w : World} {p : Nat} (h : ZA w p) (o : Obj) : ZA (w.alloc o) p := (Below.heap_alloc w o p h.lt).trans h
theorem ZA.below {w w' : World} {p : Nat} (h : ZA w p) (hb : Below w.heap.size w w') : ZA w' p := (hb.block p h.lt).trans h
theorem ZA.other {w : World} {p : Nat} (h : ZA w p) {q : Addr} (hq : p ≠ q.block) (v : Value) : ZA (w.setCell q v) p := (heap_setCell_other w q p v hq).trans h

theorem ZA.all {w : World} {p : Nat} (h : ZA w p) : w.cell? ⟨p, 0, none⟩ = some (.int .i64 0) ∧ w.cell? ⟨p, 1, none⟩ = some (.int .i64 0) ∧ w.cell? ⟨p, 2, none⟩ = some (.int .i64 0) ∧ w.cell? ⟨p, 3, none⟩ = some (.slice none 0 0) ∧ w.frozen? ⟨p, 0, none⟩ = false ∧ w.frozen? ⟨p, 1, none⟩ = false ∧ w.frozen? ⟨p, 2, none⟩ = false ∧ w.frozen? ⟨p, 3, none⟩ = false ∧ p < w.heap.size :=
  ⟨cell_of_row _ _ 0 _ _ _ h, cell_of_row _ _ 1 _ _ _ h, cell_of_row _ _ 2 _ _ _ h, cell_of_row _ _ 3 _ _ _ h, frozen_of_row _ _ 0 _ _ h, frozen_of_row _ _ 1 _ _ h, frozen_of_row _ _ 2 _ _ h, frozen_of_row _ _ 3 _ _ h, h.lt⟩

theorem cutZ {C : Prop} {w : World} {p : Nat} (h : ZA w p) (k : ZA w p → C) : C := k h

theorem ABox.new' {w : World} {p B L A : Nat} {v : Value} (h : p = w.heap.size) : ABox (w.alloc (.cells #[.int .i64 (B : Nat), .int .i64 (L : Nat), .int .i64 (A : Nat), v] 133)) p B L A v := by subst h; exact heap_alloc_last w _
theorem ABox.drew {w : World} {p B L A : Nat} {v : Value} (h : ABox w p B L A v) : ABox w.drew p B L A v := h
theorem ABox.low {w w' : World} {p B L A : Nat} {v : Value} (h : ABox w p B L A v) (hb : Below w.heap.size w w') : ABox w' p B L A v := h.below (Nat.le_refl _) hb
theorem ABox.other {w : World} {p B L A : Nat} {v : Value} (h : ABox w p B L A v) {q : Addr} (hq : p ≠ q.block) (x : Value) : ABox (w.setCell q x) p B L A v := (heap_setCell_other w q p x hq).trans h
theorem ABox.sets {w : World} {p B L A : Nat} {v : Value} (h : ZA w p) : ABox ((((w.setCell ⟨p, 0, none⟩ (.int .i64 (B : Nat))).setCell ⟨p, 1, none⟩ (.int .i64 (L : Nat))).setCell ⟨p, 2, none⟩ (.int .i64 (A : Nat))).setCell ⟨p, 3, none⟩ v) p B L A v := by
  have h1 := heap_setCell_same w p 0 _ _ (.int .i64 (B : Nat)) h
  have h2 := heap_setCell_same _ p 1 _ _ (.int .i64 (L : Nat)) h1
  have h3 := heap_setCell_same _ p 2 _ _ (.int .i64 (A : Nat)) h2
  have h4 := heap_setCell_same _ p 3 _ _ v h3
  exact h4

/-- Two axes laid in two boxes. -/
def Axes (W : World) (B L u Bc L2 A : Nat) (xs ys : List Int) (v10 v11 : Value) (wx : World) : Prop :=
  ∃ p10 p11 oa ol oc oa' ol' oc', v10 = .pointer (some ⟨p10, 0, none⟩) ∧ v11 = .pointer (some ⟨p11, 0, none⟩) ∧ ABox wx p10 B L u (.slice oa ol oc) ∧ ABox wx p11 Bc L2 A (.slice oa' ol' oc') ∧ Row wx oa ol xs ∧ Row wx oa' ol' ys ∧ Below W.heap.size W wx

end Go.Proofs.YtgjpchnkodnieaaGreatDoor
