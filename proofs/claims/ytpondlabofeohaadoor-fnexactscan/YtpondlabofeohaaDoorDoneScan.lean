import Derived.Test.YtpondlabofeohaaDoorImplScanA
import Derived.Test.YtpondlabofeohaaDoorSpecScanF
import Derived.Test.YtpondlabofeohaaDoorCardDFScan
namespace Go.Proofs.YtpondlabofeohaaDoor

theorem scan_holds : Rows.FnExactScanCardSaid := OpenScan.card Scan_spec (fun op c a1 a2 n1 n2 c1 c2 sh dt fl w h1 h2 hc1 _ ga gb hG => implScan_any op c a1 a2 n1 n2 c1 c2 sh dt fl w h1 h2 hc1 ga gb hG)

end Go.Proofs.YtpondlabofeohaaDoor
