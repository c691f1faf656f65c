import Derived.Test.YtpondlabofeohaaDoorSpecOuter
import Derived.Test.YtpondlabofeohaaDoorLawA2Outer
namespace Go.Proofs.YtpondlabofeohaaDoor
open Go.RowKit

theorem Outer_spec : LawOuter.Spec outer := fun op c d a1 a2 b1 b2 n1 n2 m1 m2 c1 c2 d1 d2 sh dt sh' dt' w h1 h2 k1 k2 _ _ _ _ => Outer_any op c d a1 a2 b1 b2 n1 n2 m1 m2 c1 c2 d1 d2 sh dt sh' dt' w h1 h2 k1 k2

end Go.Proofs.YtpondlabofeohaaDoor
