import Derived.Test.YtkgcmpmgaghdhaaDoorMFit0
import Derived.Test.YtkgcmpmgaghdhaaDoorImplArr
import Derived.Test.YtkgcmpmgaghdhaaDoorSpecBox
namespace Go.Proofs.YtkgcmpmgaghdhaaDoor
open Go.RowKit Go.Shelf

/-- What reckoned answers: the shape that it was given and new elements, or nothing and the first code. -/
def Reck (w : World) (f : Nat → Int × Int) (n : Nat) (a1 : Option Addr) (n1 c1 : Nat) (e : Ending) (w' : World) : Prop :=
  ((firstCode f n = 0 ∧ ∃ p, w.heap.size ≤ p ∧ e = .returned (.tuple #[.agg #[.bool false, .slice a1 n1 c1, .slice (some ⟨p, 0, none⟩) n n], .int .i64 0]) ∧ Blk w' p (vals f n))
    ∨ (firstCode f n ≠ 0 ∧ e = .returned (.tuple #[.agg #[.bool false, .slice none 0 0, .slice none 0 0], .int .i64 (firstCode f n)]))) ∧ Below w.heap.size w w'

end Go.Proofs.YtkgcmpmgaghdhaaDoor
