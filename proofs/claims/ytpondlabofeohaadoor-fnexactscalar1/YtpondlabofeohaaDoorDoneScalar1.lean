import Derived.Test.YtpondlabofeohaaDoorImplScalar1W
import Derived.Test.YtpondlabofeohaaDoorSpecScalar1F
import Derived.Test.YtpondlabofeohaaDoorCardDScalar1
namespace Go.Proofs.YtpondlabofeohaaDoor

theorem scalar1_holds : Rows.FnExactScalar1CardSaid := OpenScalar1.card Scalar1_spec (fun op c a1 a2 n1 n2 c1 c2 sh dt w h1 h2 _ _ ga gb hG => implScalar1_any op c a1 a2 n1 n2 c1 c2 sh dt w h1 h2 ga gb hG)

end Go.Proofs.YtpondlabofeohaaDoor
