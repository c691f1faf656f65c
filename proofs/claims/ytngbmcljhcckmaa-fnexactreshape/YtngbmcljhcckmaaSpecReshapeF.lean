import Derived.Test.YtngbmcljhcckmaaSpecReshape
import Derived.Test.YtngbmcljhcckmaaLawA2Reshape
namespace Go.Proofs.Ytngbmcljhcckmaa
open Go.RowKit

theorem Reshape_spec : LawReshape.Spec reshape := fun c d a1 a2 b1 b2 n1 n2 m1 m2 c1 c2 d1 d2 sh dt sh' dt' w h1 h2 k1 k2 _ _ _ _ => Reshape_any c d a1 a2 b1 b2 n1 n2 m1 m2 c1 c2 d1 d2 sh dt sh' dt' w h1 h2 k1 k2

end Go.Proofs.Ytngbmcljhcckmaa
