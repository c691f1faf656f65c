import Derived.Test.YtijamlgiinjikaaGreatDoorQdMath
namespace Go.Proofs.YtijamlgiinjikaaGreatDoor
open Go.RowKit

/-- What is read again is the token. -/
def backB (k n : Int) (t : ByteArray) : List Tok × Int × Nat → Bool
  | ([y], c, _) => decide (c = 0) && decide (y.k = k) && decide (y.n = n) && decide (y.t = t)
  | _ => false

/-- A token's text. -/
def tokText (k n : Int) (t : ByteArray) : ByteArray := if backB k n t (lexT (spellT k n t)) = true then spellT k n t else ⟨#[]⟩

theorem backB_code {k n c : Int} {t : ByteArray} {ts : List Tok} {p : Nat} (h : c ≠ 0) : backB k n t (ts, c, p) = false := by
  unfold backB
  split
  · rename_i e
    cases e
    simp [h]
  · rfl

theorem backB_many {k n c : Int} {t : ByteArray} {ts : List Tok} {p : Nat} (h : ts.length ≠ 1) : backB k n t (ts, c, p) = false := by
  unfold backB
  split
  · rename_i e
    cases e
    simp at h
  · rfl

theorem bytes_ne {a b : ByteArray} (h : ¬ a = b) : (a.toList == b.toList) = false := by
  refine beq_eq_false_iff_ne.2 fun e => h ?_
  rw [Lib.toList_data, Lib.toList_data] at e
  exact ByteArray.ext (Array.toList_inj.1 e)

end Go.Proofs.YtijamlgiinjikaaGreatDoor
