import Derived.Test.YtkgcmpmgaghdhaaGreatDoorMFit0
import Derived.Test.YtkgcmpmgaghdhaaGreatDoorMFit0
import Derived.Test.YtkgcmpmgaghdhaaGreatDoorMFit0
import Derived.RangeFuncRecord
import Derived.Test.YtkgcmpmgaghdhaaGreatDoorMFit0
import Derived.Deep.RegionHeld3
import Derived.Deep.AppendLies
import Derived.Deep.DeepCutAuto
namespace Go.Proofs.YtkgcmpmgaghdhaaGreatDoor
open Go.RowKit

theorem boxAt (w : World) (p : Nat) (c : Bool) (v1 v2 : Value) (hp : p = w.heap.size) : Box (w.alloc (.cells #[.bool c, v1, v2] 25)) p c v1 v2 := by subst hp; exact Box.new w c v1 v2

theorem owns_ge {w : World} {base e size n : Nat} {v : Value} {xs : List Value} (h : w.ownsRow base e size v n xs) : ∀ k, v.ownBlock = some k → base ≤ k := by
  rcases h.2 with ⟨rfl, _⟩ | ⟨g, cap, cur, rfl, hg, _⟩
  · intro k hk; cases hk
  · intro k hk; cases hk; exact hg

theorem one_blk1 (W : World) (x : Int) {wI : World} (h : Below (W.drew.alloc (.cells #[.int .i64 x] 3)).heap.size (W.drew.alloc (.cells #[.int .i64 x] 3)) wI) : Blk wI W.heap.size [x] := (show Blk (W.drew.alloc _) W.heap.size [x] from World.alloc_heap_new W.drew _).below (Nat.le_refl _) h
theorem one_blk2 (W : World) (x : Int) {wI : World} (h : Below ((W.alloc (.cells #[.int .i64 x] 3)).drew).heap.size ((W.alloc (.cells #[.int .i64 x] 3)).drew) wI) : Blk wI W.heap.size [x] := (show Blk ((W.alloc _).drew) W.heap.size [x] from World.alloc_heap_new W _).below (Nat.le_refl _) h

theorem blk_one_cells {w : World} {g : Nat} {x : Int} (h : Blk w g [x]) : ∀ (j : Nat) u, ([.int .i64 x] : List Value)[j]? = some u → w.cell? ((⟨g, 0, none⟩ : Addr).add j) = some u := by
  intro j u hu
  cases j with
  | zero => simp at hu; subst hu; simpa [Addr.add] using h.cell (i := 0) (by simp)
  | succ j => simp at hu

end Go.Proofs.YtkgcmpmgaghdhaaGreatDoor
