import Derived.Test.YtmgjicgojlkpcaaGreatDoorGrowB
namespace Go.Proofs.YtmgjicgojlkpcaaGreatDoor
open Go.RowKit

theorem own_block {w : World} {B e size n : Nat} {v : Value} {xs : List Value} (h : w.ownsRow B e size v n xs) : ∀ k, v.ownBlock = some k → B ≤ k := by
  intro k hk
  rcases h.2 with ⟨h', _⟩ | ⟨g, cap, cur, h', hb, _⟩
  · rw [h'] at hk; simp [Value.ownBlock] at hk
  · rw [h'] at hk; simp [Value.ownBlock] at hk; omega

/-- A text of the call's own from block B on, and what stood below B is as it was. -/
structure TextG (B : Nat) (w wr : World) (v : Value) (n : Nat) (zs : List Int) : Prop where
  own : wr.ownsRow B 5 1 v n (zs.map (Value.int .u8))
  low : Below B w wr
  le : B ≤ wr.heap.size

theorem TextG.step {B n n' : Nat} {w wr w' : World} {v v' : Value} {o : Obj} {zs ys : List Int} (h : TextG B w wr v n zs) (hown : w'.ownsRow B 5 1 v' n' (zs.map (Value.int .u8) ++ ys.map (Value.int .u8))) (hg : (wr.alloc o).grownBy w' v.ownBlock) : TextG B w w' v' n' (zs ++ ys) := by
  have hb : Below B w w' := (h.low.alloc h.le o).grown hg (by have := h.le; simp; omega) (own_block h.own)
  refine ⟨by rw [List.map_append]; exact hown, hb, ?_⟩
  have h1 : Below B wr w' := ((Below.refl _ _).alloc h.le o).grown hg (by have := h.le; simp; omega) (own_block h.own)
  have := h1.size
  have := h.le
  omega

theorem TextG.keep {B n : Nat} {w wr wx : World} {v : Value} {zs : List Int} (h : TextG B w wr v n zs) (hb : Below wr.heap.size wr wx) : TextG B w wx v n zs :=
  ⟨ownsB_below h.own (Nat.le_refl _) hb, h.low.trans (hb.mono h.le), Nat.le_trans h.le hb.size⟩

theorem TextG.grow {B n n' : Nat} {w wr w' : World} {v v' : Value} {zs ys : List Int} (h : TextG B w wr v n zs) (hown : w'.ownsRow B 5 1 v' n' (zs.map (Value.int .u8) ++ ys.map (Value.int .u8))) (hg : wr.grownBy w' v.ownBlock) : TextG B w w' v' n' (zs ++ ys) := by
  have h1 : Below B wr w' := (Below.refl _ _).grown hg h.le (own_block h.own)
  refine ⟨by rw [List.map_append]; exact hown, h.low.grown hg h.le (own_block h.own), ?_⟩
  have := h1.size
  have := h.le
  omega

end Go.Proofs.YtmgjicgojlkpcaaGreatDoor
