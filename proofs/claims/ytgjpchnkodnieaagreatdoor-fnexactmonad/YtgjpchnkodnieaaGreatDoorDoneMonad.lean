import Derived.Test.YtgjpchnkodnieaaGreatDoorImplMonad
import Derived.Test.YtgjpchnkodnieaaGreatDoorSpecMonad
import Derived.Test.YtgjpchnkodnieaaGreatDoorCardDMonad
namespace Go.Proofs.YtgjpchnkodnieaaGreatDoor

theorem monad_holds : Rows.FnExactMonadCardSaid := OpenMonad.card (F := monadA) (fun op c a1 a2 n1 n2 c1 c2 sh dt w h1 h2 _ _ => specMonad_any op c a1 a2 n1 n2 c1 c2 sh dt w h1 h2) (fun op c a1 a2 n1 n2 c1 c2 sh dt w h1 h2 hc1 _ ga gb hG => implMonad_any op c a1 a2 n1 n2 c1 c2 sh dt w h1 h2 hc1 ga gb hG)

end Go.Proofs.YtgjpchnkodnieaaGreatDoor
