import Derived.Test.YtngbmcljhcckmaaCatStage
namespace Go.Proofs.Ytngbmcljhcckmaa
open Go.RowKit

section
variable {w2 W w7 : World} {p g g' cap cap' n : Nat} {c : Bool} {ash : Option Addr} {m csh : Nat} {zs l : List Int}
theorem Gat.alloc (h : Gat w2 p c ash m csh zs l n W g cap) (o : Obj) : Gat w2 p c ash m csh zs l n (W.alloc o) g cap :=
  have hb : Below W.heap.size W (W.alloc o) := (Below.refl _ _).alloc (Nat.le_refl _) _
  ⟨h.box.below (Nat.le_refl _) hb, owns_below h.owns (Nat.le_refl _) hb, h.own.below (Nat.le_refl _) hb, h.ne, h.low.trans (hb.mono h.low.size), h.place⟩

theorem Gat.below {W' : World} (h : Gat w2 p c ash m csh zs l n W g cap) (hb : Below W.heap.size W W') : Gat w2 p c ash m csh zs l n W' g cap :=
  ⟨h.box.below (Nat.le_refl _) hb, owns_below h.owns (Nat.le_refl _) hb, h.own.below (Nat.le_refl _) hb, h.ne, h.low.trans (hb.mono h.low.size), h.place⟩

theorem Gat.grew1 (h : Gat w2 p c ash m csh zs l n W g cap) {x : Int} (hg : (W.drew.alloc (.cells #[.int .i64 x] 3)).grownBy w7 (some g)) :
    Box w7 p c (.slice ash m csh) (.slice (some ⟨g, 0, none⟩) n cap) ∧ Below w2.heap.size w2 w7 := (h.drew.alloc _).grew hg

theorem Gat.push1 (h : Gat w2 p c ash m csh zs l n W g cap) {x : Int} (hown : w7.ownsRow w2.heap.size 3 1 (.slice (some ⟨g', 0, none⟩) (n + 1) cap') (n + 1) (l.map (Value.int .i64) ++ [.int .i64 x]))
    (hg : (W.drew.alloc (.cells #[.int .i64 x] 3)).grownBy w7 (Value.ownBlock (.slice (some ⟨g, 0, none⟩) n cap))) (hat : Value.ownBlock (.slice (some ⟨g, 0, none⟩) n cap) = some g' ∨ g' = W.drew.heap.size + 1) :
    Gat w2 p c ash m csh zs (l ++ [x]) (n + 1) (w7.setCell ⟨p, 2, none⟩ (.slice (some ⟨g', 0, none⟩) (n + 1) cap')) g' cap' := by
  refine ((h.drew.alloc (.cells #[.int .i64 x] 3)).push (r := [x]) hown hg ?_).2
  rcases hat with e | e
  · left
    have e' : g = g' := by simpa [Value.ownBlock] using e
    exact e'.symm
  · right
    rw [e]
    simp
end

end Go.Proofs.Ytngbmcljhcckmaa
