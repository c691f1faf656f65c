import Derived.Test.YtogmcecnckgcpaaImplCatenateW
import Derived.Test.YtogmcecnckgcpaaSpecCatenateF
import Derived.Test.YtogmcecnckgcpaaOpenACatenate
namespace Go.Proofs.Ytogmcecnckgcpaa
open Go.RowKit

theorem catenate_holds : Rows.FnExactCatenateSaid := OpenCatenate.over Catenate_spec (fun c d a1 a2 b1 b2 n1 n2 m1 m2 c1 c2 d1 d2 sh dt sh' dt' w h1 h2 k1 k2 e1 e2 e3 e4 => implCatenate_any c d a1 a2 b1 b2 n1 n2 m1 m2 c1 c2 d1 d2 sh dt sh' dt' w h1 h2 k1 k2 e1 e2 e3 e4)

end Go.Proofs.Ytogmcecnckgcpaa
