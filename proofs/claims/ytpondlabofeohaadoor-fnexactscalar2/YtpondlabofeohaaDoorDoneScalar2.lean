import Derived.Test.YtpondlabofeohaaDoorImplScalar2W
import Derived.Test.YtpondlabofeohaaDoorSpecScalar2F
import Derived.Test.YtpondlabofeohaaDoorCardDScalar2
namespace Go.Proofs.YtpondlabofeohaaDoor

theorem scalar2_holds : Rows.FnExactScalar2CardSaid := OpenScalar2.card Scalar2_spec (fun op c d a1 a2 b1 b2 n1 n2 m1 m2 c1 c2 d1 d2 sh dt sh' dt' w h1 h2 k1 k2 _ _ _ _ ga gb hG => implScalar2_any op c d a1 a2 b1 b2 n1 n2 m1 m2 c1 c2 d1 d2 sh dt sh' dt' w h1 h2 k1 k2 ga gb hG)

end Go.Proofs.YtpondlabofeohaaDoor
