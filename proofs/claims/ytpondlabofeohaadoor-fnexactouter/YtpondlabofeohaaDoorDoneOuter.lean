import Derived.Test.YtpondlabofeohaaDoorImplOuterG
import Derived.Test.YtpondlabofeohaaDoorSpecOuterF
import Derived.Test.YtpondlabofeohaaDoorCardDOuter
namespace Go.Proofs.YtpondlabofeohaaDoor

theorem outer_holds : Rows.FnExactOuterCardSaid := OpenOuter.card Outer_spec (fun op c d a1 a2 b1 b2 n1 n2 m1 m2 c1 c2 d1 d2 sh dt sh' dt' w h1 h2 k1 k2 _ _ _ _ ga gb hG => implOuter_any op c d a1 a2 b1 b2 n1 n2 m1 m2 c1 c2 d1 d2 sh dt sh' dt' w h1 h2 k1 k2 ga gb hG)

end Go.Proofs.YtpondlabofeohaaDoor
