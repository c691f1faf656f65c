import Derived.Test.YtkgcmpmgaghdhaaGreatDoorImplInner
import Derived.Test.YtkgcmpmgaghdhaaGreatDoorSpecInnerF
import Derived.Test.YtkgcmpmgaghdhaaGreatDoorCardDFInner
namespace Go.Proofs.YtkgcmpmgaghdhaaGreatDoor

theorem inner_holds : Rows.FnExactInnerCardSaid := OpenInner.card Inner_spec (fun f g c d a1 a2 b1 b2 n1 n2 m1 m2 c1 c2 d1 d2 sh dt sh' dt' w h1 h2 k1 k2 e1 _ e3 _ ga gb hG => implInner_any f g c d a1 a2 b1 b2 n1 n2 m1 m2 c1 c2 d1 d2 sh dt sh' dt' w h1 h2 k1 k2 e1 e3 ga gb hG)

end Go.Proofs.YtkgcmpmgaghdhaaGreatDoor
