import Derived.Test.YtgjpchnkodnieaaGreatDoorMFit0
import Derived.Test.YtgjpchnkodnieaaGreatDoorSpecWindow
import Derived.Test.YtgjpchnkodnieaaGreatDoorSpecCopyO
import Derived.Test.YtgjpchnkodnieaaGreatDoorMFit1
import Derived.Test.YtgjpchnkodnieaaGreatDoorMFit0
import Derived.Test.YtgjpchnkodnieaaGreatDoorBoolRow
namespace Go.Proofs.YtgjpchnkodnieaaGreatDoor
open Go.RowKit

theorem Blk.new' {w : World} {g : Nat} (hg : g = w.heap.size) : Blk (w.alloc (.cells #[] 3)) g [] := by subst hg; exact Blk.new w
theorem Box.new' {w : World} {p : Nat} {c : Bool} {v1 v2 : Value} (hp : p = w.heap.size) : Box (w.alloc (.cells #[.bool c, v1, v2] 25)) p c v1 v2 := by subst hp; exact Box.new w c v1 v2

theorem owns_lowB {w w' : World} {base n g cap B : Nat} {xs : List Value} (h : w.ownsRow base 3 1 (.slice (some ⟨g, 0, none⟩) n cap) n xs) (hg : g < B) (hb : Below B w w') : w'.ownsRow base 3 1 (.slice (some ⟨g, 0, none⟩) n cap) n xs := by
  obtain ⟨h1, h2⟩ := h
  refine ⟨h1, ?_⟩
  rcases h2 with h2 | ⟨g', cap', cur, hv, hg', hh, r⟩
  · exact Or.inl h2
  · have e : g = g' := by simp at hv; exact hv.1
    subst e
    exact Or.inr ⟨g, cap', cur, hv, hg', (hb.block g hg).trans hh, r⟩

theorem Blk.grown {w w1 : World} {g g2 : Nat} {zs : List Int} (h : Blk w g zs) (o : Obj) (hg : (w.alloc o).grownBy w1 (some g2)) (hne : g ≠ g2) : Blk w1 g zs :=
  (hg.block g (by have := h.lt; simp; omega) (fun e => hne (by simpa using e))).trans (h.alloc o)

theorem grown_cell {w w1 : World} {b o' g2 : Nat} (o : Obj) (hg : (w.alloc o).grownBy w1 (some g2)) (hb : b < w.heap.size) (hne : b ≠ g2) : w1.cell? ⟨b, o', none⟩ = w.cell? ⟨b, o', none⟩ :=
  World.cell?_of_block (w := w) (a := ⟨b, o', none⟩) ((hg.block b (by simp; omega) (fun e => hne (by simpa using e))).trans (Below.heap_alloc w o b hb))

/-- A struct of an array is laid: its shape a new row of zeros, its numbers none yet. -/
def LaidTr (W : World) (d : Bool) (m : Nat) (r : Value) (wx : World) : Prop :=
  ∃ p gs g0, r = .pointer (some ⟨p, 0, none⟩) ∧ Box wx p d (.slice (some ⟨gs, 0, none⟩) m m) (.slice (some ⟨g0, 0, none⟩) 0 0) ∧ Blk wx gs (List.replicate m 0) ∧ Blk wx g0 [] ∧ Below W.heap.size W wx ∧ W.heap.size ≤ p ∧ W.heap.size ≤ gs ∧ W.heap.size ≤ g0 ∧ gs ≠ g0 ∧ gs ≠ p ∧ g0 ≠ p

theorem laidT_of {W wx : World} {d : Bool} {m p gs g0 : Nat} (h1 : Box wx p d (.slice (some ⟨gs, 0, none⟩) m m) (.slice (some ⟨g0, 0, none⟩) 0 0)) (h2 : Blk wx gs (List.replicate m 0)) (h3 : Blk wx g0 []) (h4 : Below W.heap.size W wx) (h5 : W.heap.size ≤ p ∧ W.heap.size ≤ gs ∧ W.heap.size ≤ g0 ∧ gs ≠ g0 ∧ gs ≠ p ∧ g0 ≠ p) : LaidTr W d m (.pointer (some ⟨p, 0, none⟩)) wx :=
  ⟨p, gs, g0, rfl, h1, h2, h3, h4, h5⟩

end Go.Proofs.YtgjpchnkodnieaaGreatDoor
