import Derived.Test.YtpondlabofeohaaDoorSpecScan
import Derived.Test.YtpondlabofeohaaDoorLawA1Scan
namespace Go.Proofs.YtpondlabofeohaaDoor
open Go.RowKit

theorem Scan_spec : LawScan.Spec scan := fun op c a1 a2 n1 n2 c1 c2 sh dt first w h1 h2 _ _ => Scan_any op c a1 a2 n1 n2 c1 c2 sh dt first w h1 h2

end Go.Proofs.YtpondlabofeohaaDoor
