import Derived.Test.YtpondlabofeohaaDoorSpecFold
import Derived.Test.YtpondlabofeohaaDoorLawA1Fold
namespace Go.Proofs.YtpondlabofeohaaDoor
open Go.RowKit

theorem Fold_spec : LawFold.Spec fold := fun op c a1 a2 n1 n2 c1 c2 sh dt first w h1 h2 hc1 _ => Fold_any op c a1 a2 n1 n2 c1 c2 sh dt first w h1 h2 hc1

end Go.Proofs.YtpondlabofeohaaDoor
