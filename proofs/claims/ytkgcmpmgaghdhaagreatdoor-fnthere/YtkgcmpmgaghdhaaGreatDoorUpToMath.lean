import Derived.Test.YtkgcmpmgaghdhaaGreatDoorMFit0
namespace Go.Proofs.YtkgcmpmgaghdhaaGreatDoor

/-- The numbers 1, 2, .. up to L. -/
def upTo (L : Nat) : List Int := (List.range L).map fun (i : Nat) => (i : Int) + 1
theorem upTo_len (L : Nat) : (upTo L).length = L := by simp [upTo]
theorem upTo_get {L i : Nat} (h : i < L) : (upTo L).getD i 0 = (i : Int) + 1 := by simp [upTo, h]

end Go.Proofs.YtkgcmpmgaghdhaaGreatDoor
