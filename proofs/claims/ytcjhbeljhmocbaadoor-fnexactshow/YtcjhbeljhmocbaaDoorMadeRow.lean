import Derived.Test.YtcjhbeljhmocbaaDoorInts
import Derived.Deep.OwnRows
namespace Go.Proofs.YtcjhbeljhmocbaaDoor
open Go.RowKit

theorem madeList (z : Value) (n : Nat) : madeCells #[z] n = (List.replicate n z).toArray := by
  apply Array.toList_inj.mp
  simpa using toList_madeCells_one z n

theorem Blk.made (w : World) (n g : Nat) (hg : g = w.heap.size) : Blk (w.alloc (.cells (madeCells #[.int .i64 0] n) 3)) g (List.replicate n 0) := by
  subst hg
  show (w.heap.push _)[w.heap.size]? = _
  rw [madeList]
  simp

end Go.Proofs.YtcjhbeljhmocbaaDoor
