import Derived.Test.YtpondlabofeohaaDoorSpecScalar1L
import Derived.Test.YtpondlabofeohaaDoorLawA1Scalar1
namespace Go.Proofs.YtpondlabofeohaaDoor
open Go.RowKit

theorem Scalar1_spec : LawScalar1.Spec scalar1 := fun op c a1 a2 n1 n2 c1 c2 sh dt w h1 h2 _ _ => Scalar1_any op c a1 a2 n1 n2 c1 c2 sh dt w h1 h2

end Go.Proofs.YtpondlabofeohaaDoor
