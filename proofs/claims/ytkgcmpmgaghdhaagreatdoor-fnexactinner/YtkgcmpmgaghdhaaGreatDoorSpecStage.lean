import Derived.Test.YtkgcmpmgaghdhaaGreatDoorMFit0
namespace Go.Proofs.YtkgcmpmgaghdhaaGreatDoor
open Go.RowKit

/-- k elements have been gathered into the array in box p. -/
structure Stage (w2 : World) (p : Nat) (c : Bool) (ash : Option Addr) (m csh : Nat) (zs : List Int) (f : Nat → Int × Int) (k : Nat) (wr : World) (g cap : Nat) : Prop where
  box : Box wr p c (.slice ash m csh) (.slice (some ⟨g, 0, none⟩) k cap)
  owns : wr.ownsRow w2.heap.size 3 1 (.slice (some ⟨g, 0, none⟩) k cap) k ((vals f k).map (Value.int .i64))
  own : Own wr w2.heap.size ash m zs
  ne : ∀ x, At ash m x → x ≠ g
  low : Below w2.heap.size w2 wr
  code : firstCode f k = 0
  place : w2.heap.size ≤ p

theorem Stage.start {w2 wx : World} {p g : Nat} {c : Bool} {ash : Option Addr} {m csh : Nat} {zs : List Int} (f : Nat → Int × Int) (h1 : Box wx p c (.slice ash m csh) (.slice (some ⟨g, 0, none⟩) 0 0)) (h2 : Blk wx g []) (h3 : Own wx w2.heap.size ash m zs) (h4 : Below w2.heap.size w2 wx) (h7 : w2.heap.size ≤ p) (h5 : w2.heap.size ≤ g) (h6 : ∀ x, At ash m x → x ≠ g) : Stage w2 p c ash m csh zs f 0 wx g 0 :=
  ⟨h1, h2.owns h5, h3, h6, h4, rfl, h7⟩

theorem Stage.below {w2 wr w5 : World} {p g cap k : Nat} {c : Bool} {ash : Option Addr} {m csh : Nat} {zs : List Int} {f : Nat → Int × Int} (h : Stage w2 p c ash m csh zs f k wr g cap) (hb : Below wr.heap.size wr w5) : Stage w2 p c ash m csh zs f k w5 g cap :=
  ⟨h.box.below (Nat.le_refl _) hb, owns_below h.owns (Nat.le_refl _) hb, h.own.below (Nat.le_refl _) hb, h.ne, h.low.trans (hb.mono h.low.size), h.code, h.place⟩

theorem Stage.drew {w2 wr : World} {p g cap k : Nat} {c : Bool} {ash : Option Addr} {m csh : Nat} {zs : List Int} {f : Nat → Int × Int} (h : Stage w2 p c ash m csh zs f k wr g cap) : Stage w2 p c ash m csh zs f k wr.drew g cap := h.below (Below.refl _ _).drew

theorem Stage.push {w2 w5 w6 : World} {p g g' cap cap' k : Nat} {c : Bool} {ash : Option Addr} {m csh : Nat} {zs : List Int} {f : Nat → Int × Int} {r1 : Int} (o : Obj) (h : Stage w2 p c ash m csh zs f k w5 g cap) (hf : f k = (r1, 0))
    (hown : w6.ownsRow w2.heap.size 3 1 (.slice (some ⟨g', 0, none⟩) (k + 1) cap') (k + 1) ((vals f k).map (Value.int .i64) ++ [.int .i64 r1])) (hg : (w5.alloc o).grownBy w6 (Value.ownBlock (.slice (some ⟨g, 0, none⟩) k cap))) (hat : Value.ownBlock (.slice (some ⟨g, 0, none⟩) k cap) = some g' ∨ g' = w5.heap.size + 1) :
    Box w6 p c (.slice ash m csh) (.slice (some ⟨g, 0, none⟩) k cap) ∧ Stage w2 p c ash m csh zs f (k + 1) (w6.setCell ⟨p, 2, none⟩ (.slice (some ⟨g', 0, none⟩) (k + 1) cap')) g' cap' := by
  have hb6 := h.box.grown h.owns o hg
  have hg' : (w5.alloc o).grownBy w6 (some g) := hg
  have ho6 := h.own.grown o hg' h.ne
  have hlow := h.low.trans (below_append o h.owns h.low.size hg)
  have hne' : ∀ x, At ash m x → x ≠ g' := by
    intro x hx
    rcases hat with e | e
    · have e' : g = g' := by simpa [Value.ownBlock] using e
      rw [← e']; exact h.ne x hx
    · have := h.own.row.hi hx; omega
  refine ⟨hb6, hb6.set2 _, ?_, ho6.other (fun x hx => ho6.row.notBox hb6 hx) _, hne', hlow.setCell h.place _, code_step h.code (by rw [hf]), h.place⟩
  · rw [vals_snoc, hf]
    exact owns_box_set hown hb6 _ _

end Go.Proofs.YtkgcmpmgaghdhaaGreatDoor
