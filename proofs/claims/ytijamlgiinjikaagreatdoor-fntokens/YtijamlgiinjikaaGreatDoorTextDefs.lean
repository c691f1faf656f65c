import Derived.Test.YtijamlgiinjikaaGreatDoorMFit1
import Derived.Test.YtijamlgiinjikaaGreatDoorImplReader
namespace Go.Proofs.YtijamlgiinjikaaGreatDoor
open Go

theorem tail_list (s : ByteArray) (i : Nat) : (s.extract i s.size).data.toList = s.data.toList.drop i := by
  rw [sub_list, List.take_of_length_le]
  rw [List.length_drop, ← Lib.size_eq]
  exact Nat.le_refl _

theorem tail_tail (s : ByteArray) (i j : Nat) : (s.extract i s.size).extract j (s.extract i s.size).size = s.extract (i + j) s.size := by
  refine ByteArray.ext (Array.toList_inj.1 ?_)
  rw [tail_list, tail_list, tail_list, List.drop_drop]

/-- A quote stands at a place. -/
def quote1 (s : ByteArray) (i : Nat) : Bool := decide (i + 1 ≤ s.size ∧ bt s i = 39)

/-- Where the characters from a place on that stand within a text end. -/
def inEnd (s : ByteArray) (p : Nat) : Nat := p + stretchN isIn (s.extract p s.size)

/-- How a text is read from a place on: where it ends, and its bytes; none: it does not end. -/
def textR (s : ByteArray) : Nat → Nat → List UInt8 → Option (Nat × List UInt8)
  | 0, _, _ => none
  | f + 1, p, out =>
    if quote1 s (inEnd s p) = true then
      (if quote1 s (inEnd s p + 1) = true then textR s f (inEnd s p + 2) (out ++ (s.extract p (inEnd s p)).data.toList ++ [39]) else some (inEnd s p + 1, out ++ (s.extract p (inEnd s p)).data.toList))
    else none

end Go.Proofs.YtijamlgiinjikaaGreatDoor
