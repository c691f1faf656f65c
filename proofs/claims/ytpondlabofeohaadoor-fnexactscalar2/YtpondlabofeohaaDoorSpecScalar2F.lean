import Derived.Test.YtpondlabofeohaaDoorSpecScalar2
import Derived.Test.YtpondlabofeohaaDoorLawA2Scalar2
namespace Go.Proofs.YtpondlabofeohaaDoor
open Go.RowKit

theorem Scalar2_spec : LawScalar2.Spec scalar2 := fun op c d a1 a2 b1 b2 n1 n2 m1 m2 c1 c2 d1 d2 sh dt sh' dt' w h1 h2 k1 k2 _ _ _ _ => Scalar2_any op c d a1 a2 b1 b2 n1 n2 m1 m2 c1 c2 d1 d2 sh dt sh' dt' w h1 h2 k1 k2

end Go.Proofs.YtpondlabofeohaaDoor
