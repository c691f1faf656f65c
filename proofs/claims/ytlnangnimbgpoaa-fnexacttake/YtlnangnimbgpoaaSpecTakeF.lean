import Derived.Test.YtlnangnimbgpoaaSpecTake
import Derived.Test.YtlnangnimbgpoaaLawA2Take
namespace Go.Proofs.Ytlnangnimbgpoaa
open Go.RowKit

theorem Take_spec : LawTake.Spec take := fun c d a1 a2 b1 b2 n1 n2 m1 m2 c1 c2 d1 d2 sh dt sh' dt' w h1 h2 k1 k2 _ _ _ _ => Take_any c d a1 a2 b1 b2 n1 n2 m1 m2 c1 c2 d1 d2 sh dt sh' dt' w h1 h2 k1 k2

end Go.Proofs.Ytlnangnimbgpoaa
