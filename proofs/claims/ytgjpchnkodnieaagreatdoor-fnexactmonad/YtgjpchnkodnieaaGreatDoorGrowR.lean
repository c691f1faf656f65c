import Derived.Test.YtgjpchnkodnieaaGreatDoorMFit0
import Derived.Test.YtgjpchnkodnieaaGreatDoorMFit0
import Derived.Test.YtgjpchnkodnieaaGreatDoorMFit1
import Derived.Test.YtgjpchnkodnieaaGreatDoorMFit0
import Derived.Deep.AppendLies
namespace Go.Proofs.YtgjpchnkodnieaaGreatDoor
open Go.RowKit

/-- An own list of numbers that grows, made in the world Q. -/
structure GrowR (Q w : World) (g cap j : Nat) (zs : List Int) : Prop where
  own : w.ownsRow Q.heap.size 3 1 (.slice (some ⟨g, 0, none⟩) j cap) j (zs.map (Value.int .i64))
  low : Below Q.heap.size Q w

theorem GrowR.start (Q : World) : GrowR Q (Q.alloc (.cells #[] 3)) Q.heap.size 0 0 [] := ⟨owns_empty Q, (Below.refl _ _).alloc (Nat.le_refl _) _⟩

theorem GrowR.ge {Q w : World} {g cap j : Nat} {zs : List Int} (h : GrowR Q w g cap j zs) : Q.heap.size ≤ g := by
  rcases h.own.2 with ⟨h', _⟩ | ⟨g', cap', cur, h', hb, _⟩
  · simp at h'
  · cases h'; exact hb

theorem GrowR.row {Q w : World} {g cap j : Nat} {zs : List Int} (h : GrowR Q w g cap j zs) (hj : j ≤ 17592186044416) : Row w (some ⟨g, 0, none⟩) j zs := by
  obtain ⟨a, c, e, ho⟩ := Own.of_owns h.own hj
  cases e
  exact ho.row

theorem GrowR.push {Q w w1 : World} {g cap j g' cap' : Nat} {zs zs' : List Int} {x : Int} (o : Obj) (h : GrowR Q w g cap j zs) (hz : zs' = zs ++ [x])
    (hown : w1.ownsRow Q.heap.size 3 1 (.slice (some ⟨g', 0, none⟩) (j + 1) cap') (j + 1) (zs.map (Value.int .i64) ++ [.int .i64 x])) (hg : (w.alloc o).grownBy w1 (Value.ownBlock (.slice (some ⟨g, 0, none⟩) j cap))) :
    GrowR Q w1 g' cap' (j + 1) zs' := by
  refine ⟨by rw [hz]; simpa using hown, h.low.trans (below_append o h.own h.low.size hg)⟩

theorem GrowR.below {Q w w' : World} {g cap j : Nat} {zs : List Int} (h : GrowR Q w g cap j zs) (hb : Below w.heap.size w w') : GrowR Q w' g cap j zs := ⟨owns_below h.own (Nat.le_refl _) hb, h.low.trans (hb.mono h.low.size)⟩

theorem GrowR.cap {Q w : World} {g cap j : Nat} {zs : List Int} (h : GrowR Q w g cap j zs) : j ≤ cap := by
  rcases h.own.2 with ⟨h', _⟩ | ⟨g', cap', cur, h', hb, _, h4, h5, _⟩
  · simp at h'
  · cases h'; omega

/-- What is left of a row behind its first number. -/
theorem Row.tail {w : World} {b off n : Nat} {x : Int} {zs : List Int} (h : Row w (some ⟨b, off, none⟩) (n + 1) (x :: zs)) : Row w (some ⟨b, off + 1, none⟩) n zs := by
  refine ⟨by have := h.len; simpa using this, by have := h.small; omega, ?_⟩
  rcases h.at_ with h0 | ⟨b', off', he, hlt, hc⟩
  · omega
  · cases he
    refine .inr ⟨b, off + 1, rfl, hlt, fun i hi => ?_⟩
    have := hc (i + 1) (by omega)
    rw [show off + (i + 1) = off + 1 + i by omega] at this
    rw [this]
    simp

end Go.Proofs.YtgjpchnkodnieaaGreatDoor
