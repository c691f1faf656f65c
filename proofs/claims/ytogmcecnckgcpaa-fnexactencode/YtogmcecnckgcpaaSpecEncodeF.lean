import Derived.Test.YtogmcecnckgcpaaSpecEncode
import Derived.Test.YtogmcecnckgcpaaLawA2Encode
namespace Go.Proofs.Ytogmcecnckgcpaa
open Go.RowKit

theorem Encode_spec : LawEncode.Spec encode := fun c d a1 a2 b1 b2 n1 n2 m1 m2 c1 c2 d1 d2 sh dt sh' dt' w h1 h2 k1 k2 _ _ _ _ => Encode_any c d a1 a2 b1 b2 n1 n2 m1 m2 c1 c2 d1 d2 sh dt sh' dt' w h1 h2 k1 k2

end Go.Proofs.Ytogmcecnckgcpaa
