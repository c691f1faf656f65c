import Derived.Test.YtijamlgiinjikaaGreatDoorMFit0
namespace Go.Proofs.YtijamlgiinjikaaGreatDoor
open Go.RowKit

/-- Each quote twice. -/
def qd (l : List UInt8) : List UInt8 := l.flatMap (fun b => if b = 39 then [39, 39] else [b])

theorem qd_len (l : List UInt8) : (qd l).length ≤ 2 * l.length ∧ l.length ≤ (qd l).length := by
  induction l with
  | nil => simp [qd]
  | cons b t ih =>
    unfold qd at ih ⊢
    rw [List.flatMap_cons, List.length_append]
    split <;> (simp only [List.length_cons, List.length_nil]; omega)

end Go.Proofs.YtijamlgiinjikaaGreatDoor
