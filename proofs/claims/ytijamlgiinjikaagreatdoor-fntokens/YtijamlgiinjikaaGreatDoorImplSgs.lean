import Derived.Test.YtijamlgiinjikaaGreatDoorMFit0
namespace Go.Proofs.YtijamlgiinjikaaGreatDoor
open Go

/-- The signs, one behind the other. -/
def sgs : ByteArray := ⟨(signCs.flatMap fun c => (encZ (c : Nat)).map fun x => x.toNat.toUInt8).toArray⟩

end Go.Proofs.YtijamlgiinjikaaGreatDoor
