import Derived.Test.YtkgcmpmgaghdhaaGreatDoorSpecInner
import Derived.Test.YtkgcmpmgaghdhaaGreatDoorLawA2Inner
namespace Go.Proofs.YtkgcmpmgaghdhaaGreatDoor
open Go.RowKit

theorem Inner_spec : LawInner.Spec inner := fun f g c d a1 a2 b1 b2 n1 n2 m1 m2 c1 c2 d1 d2 sh dt sh' dt' w h1 h2 k1 k2 e1 _ e3 _ => Inner_any f g c d a1 a2 b1 b2 n1 n2 m1 m2 c1 c2 d1 d2 sh dt sh' dt' w h1 h2 k1 k2 e1 e3

end Go.Proofs.YtkgcmpmgaghdhaaGreatDoor
