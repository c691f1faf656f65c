import Derived.Test.YtlnangnimbgpoaaSpecTranspose
import Derived.Test.YtlnangnimbgpoaaLawA2Transpose
namespace Go.Proofs.Ytlnangnimbgpoaa
open Go.RowKit

theorem Transpose_spec : LawTranspose.Spec transpose := fun c d a1 a2 b1 b2 n1 n2 m1 m2 c1 c2 d1 d2 sh dt sh' dt' w h1 h2 k1 k2 _ _ _ _ => Transpose_any c d a1 a2 b1 b2 n1 n2 m1 m2 c1 c2 d1 d2 sh dt sh' dt' w h1 h2 k1 k2

end Go.Proofs.Ytlnangnimbgpoaa
