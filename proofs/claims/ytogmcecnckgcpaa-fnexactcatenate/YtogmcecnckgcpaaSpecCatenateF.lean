import Derived.Test.YtogmcecnckgcpaaSpecCatenate
import Derived.Test.YtogmcecnckgcpaaLawA2Catenate
namespace Go.Proofs.Ytogmcecnckgcpaa
open Go.RowKit

theorem Catenate_spec : LawCatenate.Spec catenate := fun c d a1 a2 b1 b2 n1 n2 m1 m2 c1 c2 d1 d2 sh dt sh' dt' w h1 h2 k1 k2 e1 e2 e3 e4 => Catenate_any c d a1 a2 b1 b2 n1 n2 m1 m2 c1 c2 d1 d2 sh dt sh' dt' e1 e3 e2 e4 w h1 h2 k1 k2

end Go.Proofs.Ytogmcecnckgcpaa
